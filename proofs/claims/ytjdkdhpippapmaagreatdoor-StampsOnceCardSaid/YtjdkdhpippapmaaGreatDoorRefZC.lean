/- The numbers K of the reference. The reference of layer 2: turned words, a word of four bytes, the numbers K. The reference of layer 2: the state after a block. The reference of layer 2: the bytes with their end. The reference of layer 2: Sum. The reference of layer 2: Tagged. The reference of layer 9: Hash. The reference's codec on lists of atoms. The reference of layer 11: values, hashes, Sign, Verify. -/
import Derived.Test.YtjdkdhpippapmaaGreatDoorDigSum
import Derived.Test.YtjdkdhpippapmaaGreatDoorQuietTail
import Derived.Test.YtjdkdhpippapmaaGreatDoorDigPadW
import Derived.Test.YtjdkdhpippapmaaGreatDoorDigTag
import Derived.Test.YtjdkdhpippapmaaGreatDoorDigHash
import Derived.Test.YtjdkdhpippapmaaGreatDoorGroupFac
import Derived.Test.YtjdkdhpippapmaaGreatDoorCodZ
import Derived.Test.YtjdkdhpippapmaaGreatDoorRegU
import Derived.Test.YtjdkdhpippapmaaGreatDoorBldC
namespace Go.Proofs.YtjdkdhpippapmaaGreatDoor
open Go.RowKit
set_option linter.unusedVariables false
set_option linter.unusedSimpArgs false

theorem size64' (zs : List Int) (h : zs.length = 64) : (Tryz.prog.info? 145).map (·.size) = some (wv zs).length := by
  rw [wv_len, h]; kernel_rfl
set_option maxRecDepth 100000 in
set_option maxHeartbeats 1000000 in
theorem rnumbers_any (w : World) : Calls Tryz.prog 146 #[] w fun e w' => e = .returned (.agg (wv kK).toArray) ∧ Below w.heap.size w w' := by
  have hlit : [.int .u32 1116352408, .int .u32 1899447441, .int .u32 3049323471, .int .u32 3921009573, .int .u32 961987163, .int .u32 1508970993, .int .u32 2453635748, .int .u32 2870763221, .int .u32 3624381080, .int .u32 310598401, .int .u32 607225278, .int .u32 1426881987, .int .u32 1925078388, .int .u32 2162078206, .int .u32 2614888103, .int .u32 3248222580, .int .u32 3835390401, .int .u32 4022224774, .int .u32 264347078, .int .u32 604807628, .int .u32 770255983, .int .u32 1249150122, .int .u32 1555081692, .int .u32 1996064986, .int .u32 2554220882, .int .u32 2821834349, .int .u32 2952996808, .int .u32 3210313671, .int .u32 3336571891, .int .u32 3584528711, .int .u32 113926993, .int .u32 338241895, .int .u32 666307205, .int .u32 773529912, .int .u32 1294757372, .int .u32 1396182291, .int .u32 1695183700, .int .u32 1986661051, .int .u32 2177026350, .int .u32 2456956037, .int .u32 2730485921, .int .u32 2820302411, .int .u32 3259730800, .int .u32 3345764771, .int .u32 3516065817, .int .u32 3600352804, .int .u32 4094571909, .int .u32 275423344, .int .u32 430227734, .int .u32 506948616, .int .u32 659060556, .int .u32 883997877, .int .u32 958139571, .int .u32 1322822218, .int .u32 1537002063, .int .u32 1747873779, .int .u32 1955562222, .int .u32 2024104815, .int .u32 2227730452, .int .u32 2361852424, .int .u32 2428436474, .int .u32 2756734187, .int .u32 3204031479, .int .u32 3329325298] = wv kK := rfl
  have hkl : kK.length = 64 := rfl
  generalize kK = ks at hlit hkl ⊢
  have q1 := there64 w ks hkl
  have q2 := size64 ks hkl
  have q3 := all_oneCell_toArray (wv_one ks)
  have HL := Lib.hid hlit
  clear hlit
  go_enter Tryz.func146, Tryz.ntmps146
  go_upto_region 1 with (fail)
  go_wp2_with (refine wpList_store_mid rfl 145 (.tmp 0) (.tmp 1) rfl w.heap.size 0 (wv ks).toArray rfl ?hy q1 q2 q3 ?_)
  case hy => exact HL.out
  clear HL
  go_wp2_with fail
  refine bodyPost_ret (v := .agg (wv ks).toArray) (results_cell1 (a := ⟨w.heap.size, 0, none⟩) rfl _ rfl (run_loadVar_mid _ w.heap.size 0 _ (wv ks) _ ?_ Tryz.underlying145 rfl (size64' ks hkl))) rfl ⟨rfl, setCells_below (Nat.le_refl _) _ _ (bel_alloc1 _ _)⟩
  exact ((zeros64 w).fill (by rw [wv_len, wv_len, hkl, List.length_replicate])).range
end Go.Proofs.YtjdkdhpippapmaaGreatDoor
namespace Go.Proofs.YtjdkdhpippapmaaGreatDoor
open Go.RowKit
set_option linter.unusedVariables false
set_option linter.unusedSimpArgs false

set_option maxHeartbeats 400000 in
theorem rror2_c (x : Int) (w : World) : Calls Tryz.prog 145 #[.int .u32 x, .int .i64 2] w fun e w' => e = .returned (.int .u32 (rr x 2)) ∧ ∃ m, w' = w.drewN m := by
  go_enter Tryz.func145, Tryz.ntmps145
  go_wp2_with fail
  go_quiet (fail)
  go_wp2_with fail
  go_ret
  exact ⟨rfl, _, rfl⟩
set_option maxHeartbeats 400000 in
theorem rror6_c (x : Int) (w : World) : Calls Tryz.prog 145 #[.int .u32 x, .int .i64 6] w fun e w' => e = .returned (.int .u32 (rr x 6)) ∧ ∃ m, w' = w.drewN m := by
  go_enter Tryz.func145, Tryz.ntmps145
  go_wp2_with fail
  go_quiet (fail)
  go_wp2_with fail
  go_ret
  exact ⟨rfl, _, rfl⟩
set_option maxHeartbeats 400000 in
theorem rror7_c (x : Int) (w : World) : Calls Tryz.prog 145 #[.int .u32 x, .int .i64 7] w fun e w' => e = .returned (.int .u32 (rr x 7)) ∧ ∃ m, w' = w.drewN m := by
  go_enter Tryz.func145, Tryz.ntmps145
  go_wp2_with fail
  go_quiet (fail)
  go_wp2_with fail
  go_ret
  exact ⟨rfl, _, rfl⟩
set_option maxHeartbeats 400000 in
theorem rror11_c (x : Int) (w : World) : Calls Tryz.prog 145 #[.int .u32 x, .int .i64 11] w fun e w' => e = .returned (.int .u32 (rr x 11)) ∧ ∃ m, w' = w.drewN m := by
  go_enter Tryz.func145, Tryz.ntmps145
  go_wp2_with fail
  go_quiet (fail)
  go_wp2_with fail
  go_ret
  exact ⟨rfl, _, rfl⟩
set_option maxHeartbeats 400000 in
theorem rror13_c (x : Int) (w : World) : Calls Tryz.prog 145 #[.int .u32 x, .int .i64 13] w fun e w' => e = .returned (.int .u32 (rr x 13)) ∧ ∃ m, w' = w.drewN m := by
  go_enter Tryz.func145, Tryz.ntmps145
  go_wp2_with fail
  go_quiet (fail)
  go_wp2_with fail
  go_ret
  exact ⟨rfl, _, rfl⟩
set_option maxHeartbeats 400000 in
theorem rror17_c (x : Int) (w : World) : Calls Tryz.prog 145 #[.int .u32 x, .int .i64 17] w fun e w' => e = .returned (.int .u32 (rr x 17)) ∧ ∃ m, w' = w.drewN m := by
  go_enter Tryz.func145, Tryz.ntmps145
  go_wp2_with fail
  go_quiet (fail)
  go_wp2_with fail
  go_ret
  exact ⟨rfl, _, rfl⟩
set_option maxHeartbeats 400000 in
theorem rror18_c (x : Int) (w : World) : Calls Tryz.prog 145 #[.int .u32 x, .int .i64 18] w fun e w' => e = .returned (.int .u32 (rr x 18)) ∧ ∃ m, w' = w.drewN m := by
  go_enter Tryz.func145, Tryz.ntmps145
  go_wp2_with fail
  go_quiet (fail)
  go_wp2_with fail
  go_ret
  exact ⟨rfl, _, rfl⟩
set_option maxHeartbeats 400000 in
theorem rror19_c (x : Int) (w : World) : Calls Tryz.prog 145 #[.int .u32 x, .int .i64 19] w fun e w' => e = .returned (.int .u32 (rr x 19)) ∧ ∃ m, w' = w.drewN m := by
  go_enter Tryz.func145, Tryz.ntmps145
  go_wp2_with fail
  go_quiet (fail)
  go_wp2_with fail
  go_ret
  exact ⟨rfl, _, rfl⟩
set_option maxHeartbeats 400000 in
theorem rror22_c (x : Int) (w : World) : Calls Tryz.prog 145 #[.int .u32 x, .int .i64 22] w fun e w' => e = .returned (.int .u32 (rr x 22)) ∧ ∃ m, w' = w.drewN m := by
  go_enter Tryz.func145, Tryz.ntmps145
  go_wp2_with fail
  go_quiet (fail)
  go_wp2_with fail
  go_ret
  exact ⟨rfl, _, rfl⟩
set_option maxHeartbeats 400000 in
theorem rror25_c (x : Int) (w : World) : Calls Tryz.prog 145 #[.int .u32 x, .int .i64 25] w fun e w' => e = .returned (.int .u32 (rr x 25)) ∧ ∃ m, w' = w.drewN m := by
  go_enter Tryz.func145, Tryz.ntmps145
  go_wp2_with fail
  go_quiet (fail)
  go_wp2_with fail
  go_ret
  exact ⟨rfl, _, rfl⟩

set_option maxHeartbeats 1000000 in
theorem rword_any (b off cap : Nat) (x0 x1 x2 x3 : Int) (w : World) (hcap : 4 ≤ cap) (hb : b < w.heap.size)
    (c0 : w.cell? ⟨b, off, none⟩ = some (.int .u8 x0)) (c1 : w.cell? ⟨b, off + 1, none⟩ = some (.int .u8 x1)) (c2 : w.cell? ⟨b, off + 2, none⟩ = some (.int .u8 x2)) (c3 : w.cell? ⟨b, off + 3, none⟩ = some (.int .u8 x3)) :
    Calls Tryz.prog 144 #[.slice (some ⟨b, off, none⟩) 4 cap] w fun e w' => e = .returned (.int .u32 (word4 x0 x1 x2 x3)) ∧ ∃ m, w' = w.drewN m := by
  go_enter Tryz.func144, Tryz.ntmps144
  go_wp2_with fail
  go_quiet (fail)
  go_wp2_with fail
  go_ret
  exact ⟨rfl, _, rfl⟩
end Go.Proofs.YtjdkdhpippapmaaGreatDoor
namespace Go.Proofs.YtjdkdhpippapmaaGreatDoor
open Go.RowKit
set_option linter.unusedVariables false
set_option linter.unusedSimpArgs false

theorem word4_sched {bs ws : List Int} (hr : ∀ z ∈ bs, 0 ≤ z ∧ z ≤ 255) (hws : IsSched bs ws) {k : Nat} (hk : k < 16) : word4 (bs.getD (4 * k) 0) (bs.getD (4 * k + 1) 0) (bs.getD (4 * k + 2) 0) (bs.getD (4 * k + 3) 0) = ws.getD k 0 := by
  rw [word4_eq bs hr k, hws.2.1 k hk]
theorem Blk.dn {W : World} {b : Nat} {c : Array Value} {t : TypeId} (h : Blk W b c t) (n : Nat) : Blk (W.drewN n) b c t := h
/-- what stands through the reference's work on a block -/
def Stand (w W : World) (wb : Nat) (s : S8) (ws : List Int) : Prop :=
  Below w.heap.size w W ∧ Blk W w.heap.size (wv s.toList).toArray 137 ∧ Blk W (w.heap.size + 1) (wv (List.replicate 8 0)).toArray 137 ∧ Blk W wb (wv ws).toArray 145 ∧ w.heap.size + 2 ≤ wb
theorem Stand.dn {w W : World} {wb : Nat} {s : S8} {ws : List Int} (h : Stand w W wb s ws) (n : Nat) : Stand w (W.drewN n) wb s ws := ⟨bel_dn h.1 n, h.2⟩
theorem Stand.set {w W : World} {wb : Nat} {s : S8} {ws : List Int} (h : Stand w W wb s ws) (k : Nat) (x : Int) : Stand w (W.setCell ⟨wb, k, none⟩ (.int .u32 x)) wb s (ws.set k x) := by
  refine ⟨h.1.setCell (p := ⟨wb, k, none⟩) (by have := h.2.2.2.2; show w.heap.size ≤ wb; omega) _, h.2.1.other (b' := wb) k _ (by have := h.2.2.2.2; omega), h.2.2.1.other (b' := wb) k _ (by have := h.2.2.2.2; omega), ?_, h.2.2.2.2⟩
  have := h.2.2.2.1.set k (.int .u32 x)
  rw [wv_set] at this
  exact this

theorem len8 (S : S8) : (wv S.toList).length = (wv (List.replicate 8 0)).length := rfl
theorem sizeT8' (zs : List Int) (h : zs.length = 8) : (Tryz.prog.info? 137).map (·.size) = some (wv zs).length := by
  rw [wv_len, h]; kernel_rfl
theorem sizeT8 (zs : List Int) (h : zs.length = 8) : (Tryz.prog.info? 137).map (·.size) = some (wv zs).toArray.size := by
  simp only [List.size_toArray, wv_len, h]; kernel_rfl
theorem nest5 (h a b k w : Int) : ((((h + a) % 4294967296 + b) % 4294967296 + k) % 4294967296 + w) % 4294967296 = (h + a + b + k + w) % 4294967296 := by omega
theorem Stand.below {w W W' : World} {wb : Nat} {s : S8} {ws : List Int} (h : Stand w W wb s ws) (k : Below W.heap.size W W') : Stand w W' wb s ws :=
  ⟨h.1.trans (k.mono h.1.size), h.2.1.below k h.2.1.lt, h.2.2.1.below k h.2.2.1.lt, h.2.2.2.1.below k h.2.2.2.1.lt, h.2.2.2.2⟩
theorem Stand.others {w W : World} {wb b : Nat} {s : S8} {ws : List Int} (h : Stand w W wb s ws) (hb : wb < b) (hn : w.heap.size ≤ b) (vs : List Value) (o : Nat) : Stand w (W.setCells b o vs) wb s ws :=
  ⟨setCells_below hn _ _ h.1, Blk.others (by have := h.2.2.2.2; omega) _ _ h.2.1, Blk.others (by have := h.2.2.2.2; omega) _ _ h.2.2.1, Blk.others (by omega) _ _ h.2.2.2.1, h.2.2.2.2⟩

set_option maxRecDepth 100000 in
set_option maxHeartbeats 1600000 in
theorem rblock_any (s : S8) (b off cap : Nat) (bs : List Int) (w : World) (hl : Hid (bs.length = 64)) (hcap : 64 ≤ cap) (hmax : cap ≤ 9223372036854775807) (hb : b < w.heap.size)
    (hc : Hid (BytesAt w b off bs)) (hr : Hid (∀ z ∈ bs, 0 ≤ z ∧ z ≤ 255)) (ws : List Int) (hws : Hid (IsSched bs ws)) (R : Nat → S8) (hR : Hid (IsRounds s ws R)) :
    Calls Tryz.prog 139 #[.agg #[.int .u32 s.a, .int .u32 s.b, .int .u32 s.c, .int .u32 s.d, .int .u32 s.e, .int .u32 s.f, .int .u32 s.g, .int .u32 s.h], .slice (some ⟨b, off, none⟩) 64 cap] w
      fun e w' => e = .returned (.agg (wv (addS s (R 64)).toList).toArray) ∧ Below w.heap.size w w' := by
  have hz64 : (List.replicate 64 (0 : Int)).length = 64 := by simp
  have hlit : [.int .u32 0, .int .u32 0, .int .u32 0, .int .u32 0, .int .u32 0, .int .u32 0, .int .u32 0, .int .u32 0, .int .u32 0, .int .u32 0, .int .u32 0, .int .u32 0, .int .u32 0, .int .u32 0, .int .u32 0, .int .u32 0, .int .u32 0, .int .u32 0, .int .u32 0, .int .u32 0, .int .u32 0, .int .u32 0, .int .u32 0, .int .u32 0, .int .u32 0, .int .u32 0, .int .u32 0, .int .u32 0, .int .u32 0, .int .u32 0, .int .u32 0, .int .u32 0, .int .u32 0, .int .u32 0, .int .u32 0, .int .u32 0, .int .u32 0, .int .u32 0, .int .u32 0, .int .u32 0, .int .u32 0, .int .u32 0, .int .u32 0, .int .u32 0, .int .u32 0, .int .u32 0, .int .u32 0, .int .u32 0, .int .u32 0, .int .u32 0, .int .u32 0, .int .u32 0, .int .u32 0, .int .u32 0, .int .u32 0, .int .u32 0, .int .u32 0, .int .u32 0, .int .u32 0, .int .u32 0, .int .u32 0, .int .u32 0, .int .u32 0, .int .u32 0] = wv (List.replicate 64 0) := rfl
  generalize hzz : List.replicate 64 (0 : Int) = zz at hz64 hlit
  have HL := Lib.hid hlit
  have HZZ := Lib.hid hzz
  clear hlit hzz
  have q2 := size64 zz hz64
  have q3 := all_oneCell_toArray (wv_one zz)
  have q1 : (((w.alloc (.cells #[.int .u32 s.a, .int .u32 s.b, .int .u32 s.c, .int .u32 s.d, .int .u32 s.e, .int .u32 s.f, .int .u32 s.g, .int .u32 s.h] 137)).alloc (.cells #[.int .u32 0, .int .u32 0, .int .u32 0, .int .u32 0, .int .u32 0, .int .u32 0, .int .u32 0, .int .u32 0] 137)).alloc (.cells #[.int .u32 0, .int .u32 0, .int .u32 0, .int .u32 0, .int .u32 0, .int .u32 0, .int .u32 0, .int .u32 0, .int .u32 0, .int .u32 0, .int .u32 0, .int .u32 0, .int .u32 0, .int .u32 0, .int .u32 0, .int .u32 0, .int .u32 0, .int .u32 0, .int .u32 0, .int .u32 0, .int .u32 0, .int .u32 0, .int .u32 0, .int .u32 0, .int .u32 0, .int .u32 0, .int .u32 0, .int .u32 0, .int .u32 0, .int .u32 0, .int .u32 0, .int .u32 0, .int .u32 0, .int .u32 0, .int .u32 0, .int .u32 0, .int .u32 0, .int .u32 0, .int .u32 0, .int .u32 0, .int .u32 0, .int .u32 0, .int .u32 0, .int .u32 0, .int .u32 0, .int .u32 0, .int .u32 0, .int .u32 0, .int .u32 0, .int .u32 0, .int .u32 0, .int .u32 0, .int .u32 0, .int .u32 0, .int .u32 0, .int .u32 0, .int .u32 0, .int .u32 0, .int .u32 0, .int .u32 0, .int .u32 0, .int .u32 0, .int .u32 0, .int .u32 0] 145)).there (w.heap.size + 1 + 1) 0 (wv zz).toArray.size := by
    have := there64 ((w.alloc (.cells #[.int .u32 s.a, .int .u32 s.b, .int .u32 s.c, .int .u32 s.d, .int .u32 s.e, .int .u32 s.f, .int .u32 s.g, .int .u32 s.h] 137)).alloc (.cells #[.int .u32 0, .int .u32 0, .int .u32 0, .int .u32 0, .int .u32 0, .int .u32 0, .int .u32 0, .int .u32 0] 137)) zz hz64
    simpa using this
  go_enter Tryz.func139, Tryz.ntmps139
  go_upto_region 2 with (refine wpList_store_mid rfl 145 (.tmp 5) (.tmp 22) rfl (w.heap.size + 1 + 1) 0 (wv zz).toArray rfl ?hy q1 q2 q3 ?_)
  case hy => exact HL.out
  simp only [Act.put]
  generalize hW : World.setCells _ _ _ _ = W0
  have ST0 : Hid (Stand w W0 (w.heap.size + 1 + 1) s zz) := Lib.hid (by
    rw [← hW]
    have b3 : Below w.heap.size w (((w.alloc (.cells #[.int .u32 s.a, .int .u32 s.b, .int .u32 s.c, .int .u32 s.d, .int .u32 s.e, .int .u32 s.f, .int .u32 s.g, .int .u32 s.h] 137)).alloc (.cells #[.int .u32 0, .int .u32 0, .int .u32 0, .int .u32 0, .int .u32 0, .int .u32 0, .int .u32 0, .int .u32 0] 137)).alloc (.cells #[.int .u32 0, .int .u32 0, .int .u32 0, .int .u32 0, .int .u32 0, .int .u32 0, .int .u32 0, .int .u32 0, .int .u32 0, .int .u32 0, .int .u32 0, .int .u32 0, .int .u32 0, .int .u32 0, .int .u32 0, .int .u32 0, .int .u32 0, .int .u32 0, .int .u32 0, .int .u32 0, .int .u32 0, .int .u32 0, .int .u32 0, .int .u32 0, .int .u32 0, .int .u32 0, .int .u32 0, .int .u32 0, .int .u32 0, .int .u32 0, .int .u32 0, .int .u32 0, .int .u32 0, .int .u32 0, .int .u32 0, .int .u32 0, .int .u32 0, .int .u32 0, .int .u32 0, .int .u32 0, .int .u32 0, .int .u32 0, .int .u32 0, .int .u32 0, .int .u32 0, .int .u32 0, .int .u32 0, .int .u32 0, .int .u32 0, .int .u32 0, .int .u32 0, .int .u32 0, .int .u32 0, .int .u32 0, .int .u32 0, .int .u32 0, .int .u32 0, .int .u32 0, .int .u32 0, .int .u32 0, .int .u32 0, .int .u32 0, .int .u32 0, .int .u32 0] 145)) := ((bel_alloc1 _ _).alloc (by simp) _).alloc (by simp; omega) _
    refine ⟨setCells_below (by omega) _ _ b3, Blk.others (by omega) _ _ (((Blk.new w _ _).alloc _).alloc _), Blk.others (by omega) _ _ ?_, ?_, by omega⟩
    · have h := Blk.new (w.alloc (.cells #[.int .u32 s.a, .int .u32 s.b, .int .u32 s.c, .int .u32 s.d, .int .u32 s.e, .int .u32 s.f, .int .u32 s.g, .int .u32 s.h] 137)) #[.int .u32 0, .int .u32 0, .int .u32 0, .int .u32 0, .int .u32 0, .int .u32 0, .int .u32 0, .int .u32 0] 137
      simp only [World.size_alloc] at h
      exact h.alloc _
    · have h := zeros64 ((w.alloc (.cells #[.int .u32 s.a, .int .u32 s.b, .int .u32 s.c, .int .u32 s.d, .int .u32 s.e, .int .u32 s.f, .int .u32 s.g, .int .u32 s.h] 137)).alloc (.cells #[.int .u32 0, .int .u32 0, .int .u32 0, .int .u32 0, .int .u32 0, .int .u32 0, .int .u32 0, .int .u32 0] 137))
      simp only [World.size_alloc] at h
      exact h.fill (by rw [wv_len, wv_len, hz64, List.length_replicate]))
  clear hW q1 q2 q3 HL HZZ
  have hzz := Lib.hid hz64
  clear hz64
  obtain ⟨wb, hwb⟩ : ∃ wb, w.heap.size + 1 + 1 = wb := ⟨_, rfl⟩
  rw [hwb] at ST0 ⊢
  clear hwb
  go_wp2_with fail
  go_loopw [6] (fun x wr => ∃ (k : Nat) (n : Int) (zs : List Int), k ≤ 16 ∧ n = k ∧ x = .int .i64 n ∧ Hid (zs.length = 64) ∧ Hid (∀ j, j < k → zs.getD j 0 = ws.getD j 0) ∧ Hid (Stand w wr wb s zs)) (fun x _ => 16 - (intOf x).toNat)
  case atStart => exact ⟨0, 0, zz, by omega, rfl, rfl, hzz, Lib.hid fun j hj => by omega, ST0⟩
  case round =>
    clear ST0 hzz
    obtain ⟨k, n, zs, hk, hn, rfl, hz, hv, ST⟩ := hrel
    have l1 := ST.out.2.2.2.1.lt
    by_cases hlt : k < 16
    · subst hn
      have hcc := hc.out.below ST.out.1 hb
      have hb' : b < wr.heap.size := Nat.lt_of_lt_of_le hb ST.out.1.size
      have c0 := hcc (4 * k) (by have := hl.out; omega)
      have c1 := hcc (4 * k + 1) (by have := hl.out; omega)
      have c2 := hcc (4 * k + 2) (by have := hl.out; omega)
      have c3 := hcc (4 * k + 3) (by have := hl.out; omega)
      rw [← Nat.add_assoc] at c1 c2 c3
      have e0 := ST.out.2.2.2.1.cell k
      rw [wv_get zs k (by have := hz.out; omega)] at e0
      have f0 := ST.out.2.2.2.1.frozen k
      have HW := Lib.hid (word4_sched hr.out hws.out hlt)
      generalize bs.getD (4 * k) 0 = x0 at c0 HW
      generalize bs.getD (4 * k + 1) 0 = x1 at c1 HW
      generalize bs.getD (4 * k + 2) 0 = x2 at c2 HW
      generalize bs.getD (4 * k + 3) 0 = x3 at c3 HW
      generalize zs.getD k 0 = y at e0
      clear hcc
      go_wp2_with fail
      refine (rword_any b (off + 4 * k) (cap - 4 * k) x0 x1 x2 x3 wr (by omega) hb' c0 c1 c2 c3).mono ?_
      rintro e w2 ⟨rfl, m, rfl⟩
      clear c0 c1 c2 c3
      go_wp2_with fail
      go_roundw
      case rel =>
        refine ⟨k + 1, k + 1, zs.set k (word4 x0 x1 x2 x3), by omega, by omega, rfl, Lib.hid (by rw [List.length_set]; exact hz.out), Lib.hid (set_inv (m := 0) (f := fun j => ws.getD j 0) hz.out (by omega) hv.out HW.out), Lib.hid ?_⟩
        exact (ST.out.set k (word4 x0 x1 x2 x3)).dn m
      case measure => simp [intOf]; omega
    · obtain rfl : n = 16 := by omega
      obtain rfl : k = 16 := by omega
      clear hn hlt hk
      go_wp2_with fail
      go_loopw [7] (fun x wr => ∃ (t : Nat) (n : Int) (zs : List Int), 16 ≤ t ∧ t ≤ 64 ∧ n = t ∧ x = .int .i64 n ∧ Hid (zs.length = 64) ∧ Hid (∀ j, j < t → zs.getD j 0 = ws.getD j 0) ∧ Hid (Stand w wr wb s zs)) (fun x _ => 64 - (intOf x).toNat)
      case atStart => exact ⟨16, 16, zs, by omega, by omega, rfl, rfl, hz, hv, ST⟩
      case round =>
        clear hz hv ST l1
        clear zs
        obtain ⟨t, n, zs, ht16, ht, hn, rfl, hz, hv, ST⟩ := hrel
        have l1 := ST.out.2.2.2.1.lt
        by_cases hlt : t < 64
        · subst hn
          obtain ⟨k, rfl⟩ : ∃ k, t = k + 16 := ⟨t - 16, by omega⟩
          have hK := hlt
          have e1 := ST.out.2.2.2.1.cell (k + 1)
          have e14 := ST.out.2.2.2.1.cell (k + 14)
          rw [wv_get zs _ (by have := hz.out; omega), hv.out _ (by omega)] at e1 e14
          have HN := Lib.hid (hws.out.2.2 k (by omega))
          obtain ⟨x, hx⟩ : ∃ x, ws.getD k 0 = x := ⟨_, rfl⟩
          obtain ⟨z, hzz⟩ : ∃ x, ws.getD (k + 9) 0 = x := ⟨_, rfl⟩
          have HALL : Hid (∀ w', Stand w w' wb s zs → Stand w w' wb s zs ∧ w'.cell? ⟨wb, k, none⟩ = some (.int .u32 x) ∧ w'.cell? ⟨wb, k + 9, none⟩ = some (.int .u32 z) ∧ w'.cell? ⟨wb, k + 16, none⟩ = some (.int .u32 (zs.getD (k + 16) 0)) ∧ w'.frozen? ⟨wb, k + 16, none⟩ = false) := Lib.hid fun w' h => by
            refine ⟨h, ?_, ?_, ?_, h.2.2.2.1.frozen _⟩
            · rw [h.2.2.2.1.cell, wv_get zs _ (by have := hz.out; omega), hv.out _ (by omega), hx]
            · rw [h.2.2.2.1.cell, wv_get zs _ (by have := hz.out; omega), hv.out _ (by omega), hzz]
            · rw [h.2.2.2.1.cell, wv_get zs _ (by have := hz.out; omega)]
          rw [hx, hzz] at HN
          generalize ws.getD (k + 1) 0 = y at e1 HN
          generalize ws.getD (k + 14) 0 = u at e14 HN
          obtain ⟨v, hvv⟩ : ∃ v, zs.getD (k + 16) 0 = v := ⟨_, rfl⟩
          rw [hvv] at HALL
          clear hx hzz hvv
          go_wp2_with fail
          have i0 : (k : Int) + 16 < 64 := by omega
          have i1 : (k : Int) < 64 := by omega
          obtain ⟨k9, h9⟩ : ∃ j, k + 9 = j := ⟨_, rfl⟩
          have i9 : (k9 : Int) < 64 := by omega
          have wA : IntKind.i64.wrap (k : Int) = (k : Int) := by simp [IntKind.wrap, IntKind.bits, IntKind.signed]; omega
          have wB : IntKind.i64.wrap ((k : Int) + 16 - 16) = (k : Int) := by simp [IntKind.wrap, IntKind.bits, IntKind.signed]; omega
          have wC : IntKind.i64.wrap ((k : Int) + 16 - 7) = (k9 : Int) := by rw [show ((k : Int) + 16 - 7) = (k9 : Int) by omega]; simp [IntKind.wrap, IntKind.bits, IntKind.signed]; omega
          rw [h9] at HALL
          clear h9
          obtain ⟨_, e0, e9, e16, f16⟩ := HALL.out wr ST.out
          clear HALL
          refine wp_region_quiet_tail 29 (by kernel_rfl) (by kernel_rfl) ?_
          simp only [List.take_succ_cons, List.take_zero, List.drop_succ_cons, List.drop_zero]
          have p16 : (0 : Int) ≤ (k : Int) + 16 := by omega
          have t16 : ((k : Int) + 16).toNat = k + 16 := by omega
          iterate 6 (quiet_step (fail))
          quiet_step ((go_at_call 145; exact Calls.quiet_of (rror7_c y _)))
          quiet_step (fail)
          quiet_step ((go_at_call 145; exact Calls.quiet_of (rror18_c y _)))
          iterate 11 (quiet_step (fail))
          quiet_step ((go_at_call 145; exact Calls.quiet_of (rror17_c u _)))
          quiet_step (fail)
          quiet_step ((go_at_call 145; exact Calls.quiet_of (rror19_c u _)))
          iterate 6 (quiet_step (fail))
          refine wpQuiet_nil ?_
          intro _ hw'
          obtain ⟨nq, rfl⟩ := hw'
          go_wp2_with fail
          go_roundw
          case rel =>
            refine ⟨k + 16 + 1, k + 16 + 1, zs.set (k + 16) (nextW x y z u), by omega, by omega, by omega, by simp, Lib.hid (by rw [List.length_set]; exact hz.out), Lib.hid (set_inv (m := 0) (f := fun j => ws.getD j 0) hz.out (by omega) hv.out HN.out.symm), Lib.hid ?_⟩
            exact (ST.out.set (k + 16) (nextW x y z u)).dn nq
          case measure => simp [intOf]; omega
        · obtain rfl : n = 64 := by omega
          obtain rfl : t = 64 := by omega
          clear hn hlt ht ht16
          have HE := same64 hz.out hws.out.1 hv.out
          subst HE
          clear hv l1
          go_wp2_with fail
          refine (rnumbers_any _).mono ?_; rintro e w3 ⟨rfl, hb3⟩
          have ST3 := Lib.hid (ST.out.below hb3)
          clear ST hb3
          obtain ⟨ks, hks⟩ : ∃ ks, kK = ks := ⟨_, rfl⟩
          have hkl : ks.length = 64 := by rw [← hks]; rfl
          rw [hks]
          have HKS := Lib.hid hks
          clear hks
          have q1 := there64 w3 ks hkl
          have q2 := size64 ks hkl
          have q3 := all_oneCell_toArray (wv_one ks)
          go_upto_region 13 with (refine wpList_store_mid rfl 145 _ _ rfl w3.heap.size 0 (wv ks).toArray rfl rfl q1 q2 q3 ?_)
          simp only [Act.put]
          generalize hW : World.setCells _ _ _ _ = W4
          have KB4 : Hid (Blk W4 w3.heap.size (wv ks).toArray 145) := Lib.hid (by rw [← hW]; exact (zeros64 w3).fill (by rw [wv_len, wv_len, hkl, List.length_replicate]))
          have ST4 : Hid (Stand w W4 wb s zs) := Lib.hid (by rw [← hW]; exact (ST3.out.below (bel_alloc1 _ _)).others (ST3.out.2.2.2.1.lt) ST3.out.1.size _ _)
          have HKL := Lib.hid hkl
          clear hW q1 q2 q3 ST3 hkl
          obtain ⟨kb, hkb⟩ : ∃ kb, w3.heap.size = kb := ⟨_, rfl⟩
          rw [hkb] at KB4 ⊢
          clear hkb
          have c0 : W4.cell? ⟨w.heap.size, 0, none⟩ = some (.int .u32 s.a) := ST4.out.2.1.cell 0
          have c1 : W4.cell? ⟨w.heap.size, 1, none⟩ = some (.int .u32 s.b) := ST4.out.2.1.cell 1
          have c2 : W4.cell? ⟨w.heap.size, 2, none⟩ = some (.int .u32 s.c) := ST4.out.2.1.cell 2
          have c3 : W4.cell? ⟨w.heap.size, 3, none⟩ = some (.int .u32 s.d) := ST4.out.2.1.cell 3
          have c4 : W4.cell? ⟨w.heap.size, 4, none⟩ = some (.int .u32 s.e) := ST4.out.2.1.cell 4
          have c5 : W4.cell? ⟨w.heap.size, 5, none⟩ = some (.int .u32 s.f) := ST4.out.2.1.cell 5
          have c6 : W4.cell? ⟨w.heap.size, 6, none⟩ = some (.int .u32 s.g) := ST4.out.2.1.cell 6
          have c7 : W4.cell? ⟨w.heap.size, 7, none⟩ = some (.int .u32 s.h) := ST4.out.2.1.cell 7
          have lk := KB4.out.lt
          have lw := ST4.out.2.2.2.1.lt
          have ls := ST4.out.2.1.lt
          go_quiet (fail)
          clear c0 c1 c2 c3 c4 c5 c6 c7 lk lw ls
          generalize hwq : W4.drewN nq = wq
          have KBq : Hid (Blk wq kb (wv ks).toArray 145) := Lib.hid (by rw [← hwq]; exact KB4.out)
          have STq : Hid (Stand w wq wb s zs) := Lib.hid (by rw [← hwq]; exact ST4.out.dn nq)
          clear hwq KB4 ST4
          go_wp2_with fail
          go_loopw [11, 12, 13, 14, 15, 16, 17, 18, 19] (fun x0 x1 x2 x3 x4 x5 x6 x7 i wr => ∃ (t : Nat) (n a b c d e f g h : Int), t ≤ 64 ∧ n = t ∧ x0 = .int .u32 a ∧ x1 = .int .u32 b ∧ x2 = .int .u32 c ∧ x3 = .int .u32 d ∧ x4 = .int .u32 e ∧ x5 = .int .u32 f ∧ x6 = .int .u32 g ∧ x7 = .int .u32 h ∧ i = .int .i64 n ∧ Hid (R t = ⟨a, b, c, d, e, f, g, h⟩) ∧ Hid (Stand w wr wb s zs) ∧ Hid (Blk wr kb (wv ks).toArray 145)) (fun _ _ _ _ _ _ _ _ i _ => 64 - (intOf i).toNat)
          case atStart => exact ⟨0, 0, s.a, s.b, s.c, s.d, s.e, s.f, s.g, s.h, by omega, rfl, rfl, rfl, rfl, rfl, rfl, rfl, rfl, rfl, rfl, Lib.hid hR.out.1, STq, KBq⟩
          case round =>
            clear STq KBq
            obtain ⟨t, n, a1, b1, c1, d1, e1, f1, g1, h1, ht, hn, rfl, rfl, rfl, rfl, rfl, rfl, rfl, rfl, rfl, hRt, ST, KB⟩ := hrel
            by_cases hlt : t < 64
            · subst hn
              have hkc := KB.out.cell t
              rw [wv_get ks t (by have := HKL.out; omega)] at hkc
              have hwc := ST.out.2.2.2.1.cell t
              rw [wv_get zs t (by have := hz.out; omega)] at hwc
              have hRn0 := hR.out.2 t hlt
              rw [HKS.out] at hRn0
              have hRn := Lib.hid hRn0
              clear hRn0
              generalize ks.getD t 0 = kt at hkc hRn
              generalize zs.getD t 0 = wt at hwc hRn
              have lB := KB.out.lt
              have lW := ST.out.2.2.2.1.lt
              go_wp2_with fail
              refine wp_region_quiet_lit (by kernel_rfl) (by kernel_rfl) ?_
              iterate 2 (quiet_step (fail))
              quiet_step ((go_at_call 145; exact Calls.quiet_of (rror6_c e1 _)))
              quiet_step (fail)
              quiet_step ((go_at_call 145; exact Calls.quiet_of (rror11_c e1 _)))
              iterate 2 (quiet_step (fail))
              quiet_step ((go_at_call 145; exact Calls.quiet_of (rror25_c e1 _)))
              iterate 20 (quiet_step (fail))
              refine wpQuiet_nil ?_
              intro _ hw'
              obtain ⟨nq, rfl⟩ := hw'
              go_wp2_with fail
              refine (rror2_c a1 _).mono ?_; rintro e w' ⟨rfl, m1, rfl⟩
              go_wp2_with fail
              refine (rror13_c a1 _).mono ?_; rintro e w' ⟨rfl, m2, rfl⟩
              go_wp2_with fail
              refine (rror22_c a1 _).mono ?_; rintro e w' ⟨rfl, m3, rfl⟩
              go_wp2_with fail
              go_roundw
              case rel =>
                refine ⟨t + 1, t + 1, _, _, _, _, _, _, _, _, by omega, by omega, rfl, rfl, rfl, rfl, rfl, rfl, rfl, rfl, rfl, Lib.hid (by rw [hRn.out, hRt.out]; simp only [rnd, pP, qQ, nest5]), Lib.hid ?_, Lib.hid KB.out⟩
                exact ⟨⟨ST.out.1.os, ST.out.1.tape, ST.out.1.output, ST.out.1.size, ST.out.1.block⟩, ST.out.2⟩
              case measure => simp [intOf]; omega
            · obtain rfl : n = 64 := by omega
              obtain rfl : t = 64 := by omega
              clear hn hlt ht
              have cE0 : wr.cell? ⟨w.heap.size, 0, none⟩ = some (.int .u32 s.a) := ST.out.2.1.cell 0
              have cE1 : wr.cell? ⟨w.heap.size, 1, none⟩ = some (.int .u32 s.b) := ST.out.2.1.cell 1
              have cE2 : wr.cell? ⟨w.heap.size, 2, none⟩ = some (.int .u32 s.c) := ST.out.2.1.cell 2
              have cE3 : wr.cell? ⟨w.heap.size, 3, none⟩ = some (.int .u32 s.d) := ST.out.2.1.cell 3
              have cE4 : wr.cell? ⟨w.heap.size, 4, none⟩ = some (.int .u32 s.e) := ST.out.2.1.cell 4
              have cE5 : wr.cell? ⟨w.heap.size, 5, none⟩ = some (.int .u32 s.f) := ST.out.2.1.cell 5
              have cE6 : wr.cell? ⟨w.heap.size, 6, none⟩ = some (.int .u32 s.g) := ST.out.2.1.cell 6
              have cE7 : wr.cell? ⟨w.heap.size, 7, none⟩ = some (.int .u32 s.h) := ST.out.2.1.cell 7
              have ls := ST.out.2.1.lt
              have q4 : wr.there (w.heap.size + 1) 0 (wv (addS s ⟨a1, b1, c1, d1, e1, f1, g1, h1⟩).toList).toArray.size := by have := ST.out.2.2.1.there; exact this
              have q5 : (Tryz.prog.info? 137).map (·.size) = some (wv (addS s ⟨a1, b1, c1, d1, e1, f1, g1, h1⟩).toList).toArray.size := sizeT8 _ rfl
              have q6 := all_oneCell_toArray (wv_one (addS s ⟨a1, b1, c1, d1, e1, f1, g1, h1⟩).toList)
              go_wp2_with (refine wpList_store_mid rfl 137 (.tmp 4) (.tmp 190) rfl (w.heap.size + 1) 0 (wv (addS s ⟨a1, b1, c1, d1, e1, f1, g1, h1⟩).toList).toArray rfl rfl q4 q5 q6 ?_)
              have hfin : Blk (wr.setCells (w.heap.size + 1) 0 (wv (addS s ⟨a1, b1, c1, d1, e1, f1, g1, h1⟩).toList).toArray.toList) (w.heap.size + 1) (wv (addS s ⟨a1, b1, c1, d1, e1, f1, g1, h1⟩).toList).toArray 137 := ST.out.2.2.1.fill (len8 _)
              have hbel : Below w.heap.size w (wr.setCells (w.heap.size + 1) 0 (wv (addS s ⟨a1, b1, c1, d1, e1, f1, g1, h1⟩).toList).toArray.toList) := setCells_below (by omega) _ _ ST.out.1
              have hR64 := hRt.out
              clear hRt hR hws q4 q5 q6
              generalize wr.setCells (w.heap.size + 1) 0 (wv (addS s ⟨a1, b1, c1, d1, e1, f1, g1, h1⟩).toList).toArray.toList = wf at hfin hbel ⊢
              generalize hSS : addS s ⟨a1, b1, c1, d1, e1, f1, g1, h1⟩ = SS at hfin
              refine bodyPost_ret (v := .agg (wv SS.toList).toArray) (results_cell1 (a := ⟨w.heap.size + 1, 0, none⟩) rfl _ rfl (run_loadVar_mid _ (w.heap.size + 1) 0 _ (wv SS.toList) _ hfin.range Tryz.underlying137 rfl (sizeT8' _ rfl))) rfl ⟨by rw [hR64, hSS], hbel⟩
end Go.Proofs.YtjdkdhpippapmaaGreatDoor
namespace Go.Proofs.YtjdkdhpippapmaaGreatDoor
open Go.RowKit
set_option linter.unusedVariables false
set_option linter.unusedSimpArgs false

def lenOfV : Value → Nat
  | .slice _ n _ => n
  | _ => 0
set_option maxRecDepth 100000 in
set_option maxHeartbeats 4000000 in
theorem rpad_any (p : Option Addr) (m cap : Nat) (bs : List Int) (w : World) (hz : Hid (SrcW w p m cap bs)) (hn : m ≤ 1000000000) (ls : List Int) (hls : Hid (IsLen m ls)) (zn : Nat) (hzn : (m + 1 + zn) % 64 = 56) (hz64 : zn < 64) :
    Calls Tryz.prog 138 #[.slice p m cap] w fun e w' => ∃ v, e = .returned v ∧ Own8 w' w.heap.size v ((bs ++ [128] ++ List.replicate zn 0) ++ ls) ∧ Below w.heap.size w w' := by
  have hml := Lib.hid hz.out.len
  have HZN := Lib.hid hzn; clear hzn
  go_enter Tryz.func138, Tryz.ntmps138
  go_wp2_with (at_builtin; refine app8w rfl (.tmp 6) (.tmp 7) rfl w.heap.size (.slice (some ⟨w.heap.size, 0, none⟩) 0 0) [] rfl ?c0 p m cap bs rfl ?c1 ?c2 ?c3 ?_)
  case c0 => exact own8_empty w
  case c1 => exact hz.out.below (bel_alloc1 _ _)
  case c2 => have := hml.out; simp; omega
  case c3 => simp
  intro v1 w1 ho hg
  have HB1 := Lib.hid (bel_grown8 (bel_alloc1 w _) (own8_empty w) hg (by simp))
  have HO1 := Lib.hid ho
  clear ho hg
  go_wp2_with (at_builtin; refine app8 rfl (.tmp 8) (.tmp 9) rfl w.heap.size v1 _ rfl (own8_alloc HO1.out _) (some ⟨w1.heap.size, 0, none⟩) 1 1 [128] rfl ?c1b ?c2b ?c3b ?_)
  case c1b => exact ⟨rfl, .inr ⟨_, _, rfl, by simp, one_byte w1 128⟩⟩
  case c2b => have := hml.out; simp; omega
  case c3b => have := HB1.out.size; simp; omega
  intro v2 w2 ho hg
  have HB2 := Lib.hid (bel_grown8 (HB1.out.alloc HB1.out.size _) (own8_alloc HO1.out _) hg (by have := HB1.out.size; simp; omega))
  have HO2 : Hid (Own8 w2 w.heap.size v2 (bs ++ [128] ++ List.replicate 0 0)) := Lib.hid (by simpa using ho)
  clear ho hg HB1 HO1
  go_wp2_with fail
  go_loopw [3] (fun x wr => ∃ (k : Nat) (v : Value), k ≤ zn ∧ v = x ∧ Hid (Own8 wr w.heap.size v (bs ++ [128] ++ List.replicate k 0)) ∧ Hid (Below w.heap.size w wr)) (fun x _ => m + 1 + zn - lenOfV x)
  case atStart => exact ⟨0, v2, by omega, rfl, HO2, HB2⟩
  case round =>
    clear HO2 HB2
    obtain ⟨k, v, hk, rfl, HO, HB⟩ := hrel
    obtain ⟨pv, cv, rfl, hsrc, hcv, hcm, hfr⟩ := own8_src HO.out
    have hlen : (bs ++ [128] ++ List.replicate k 0).length = m + 1 + k := by simp [hml.out]; omega
    rw [hlen] at hcv ⊢
    have HO' := HO.out
    rw [hlen] at HO'
    have HOv := Lib.hid HO'
    have HLN := Lib.hid hlen
    clear HO' HO hsrc hfr hlen
    obtain ⟨N, hN⟩ : ∃ N, m + 1 + k = N := ⟨_, rfl⟩
    rw [hN] at HOv hcv ⊢
    by_cases hlt : k < zn
    · have htest : ((N : Int) % 64 != 56) = true := by
        have := HZN.out
        simp only [bne_iff_ne, ne_eq]
        omega
      have HN := Lib.hid hN
      clear hN
      go_wp2_with (at_builtin; refine app8 rfl (.tmp 15) (.tmp 16) rfl w.heap.size (.slice pv N cv) (bs ++ [128] ++ List.replicate k 0) rfl (own8_alloc HOv.out _) (some ⟨wr.heap.size, 0, none⟩) 1 1 [0] rfl ?d1 ?d2 ?d3 ?_)
      case d1 => exact ⟨rfl, .inr ⟨_, _, rfl, by simp, one_byte wr 0⟩⟩
      case d2 => rw [HLN.out]; simp; omega
      case d3 => have := HB.out.size; simp; omega
      intro v3 w3 ho hg
      have HB3 := Lib.hid (bel_grown8 (HB.out.alloc HB.out.size _) (own8_alloc HOv.out _) hg (by have := HB.out.size; simp; omega))
      have HO3 : Hid (Own8 w3 w.heap.size v3 (bs ++ [128] ++ List.replicate (k + 1) 0)) := Lib.hid (by
        rw [List.replicate_succ']; simpa using ho)
      clear ho hg
      go_wp2_with fail
      go_roundw
      case rel => exact ⟨k + 1, v3, by omega, rfl, HO3, HB3⟩
      case measure =>
        obtain ⟨pv3, cv3, rfl, _⟩ := own8_src HO3.out
        have h1 : (bs ++ [128] ++ List.replicate (k + 1) 0).length = m + 1 + (k + 1) := by simp [hml.out]; omega
        have h2 := HN.out
        simp [lenOfV]
        simp at h1
        omega
    · obtain rfl : k = zn := by omega
      have htest : ((N : Int) % 64 != 56) = false := by
        have := HZN.out
        simp only [bne_eq_false_iff_eq]
        omega
      have HL4 : Hid ((bs ++ [128] ++ List.replicate k 0).length ≤ 1000000200) := Lib.hid (by rw [HLN.out]; omega)
      clear hN hk hlt hcv hcm
      obtain ⟨pre, hpre⟩ : ∃ pre, bs ++ [128] ++ List.replicate k 0 = pre := ⟨_, rfl⟩
      have HP := Lib.hid hpre
      rw [hpre] at HOv HL4
      clear hpre HLN
      go_wp2_with fail
      go_loopw [3, 5] (fun x i wr => ∃ (k : Nat) (n : Int) (v : Value), k ≤ 8 ∧ n = 7 - k ∧ i = .int .i64 n ∧ v = x ∧ Hid (Own8 wr w.heap.size v (pre ++ ls.take k)) ∧ Hid (Below w.heap.size w wr)) (fun _ i _ => (intOf i + 1).toNat)
      case atStart => exact ⟨0, 7, _, by omega, by omega, rfl, rfl, Lib.hid (by simpa using HOv.out), HB⟩
      case round =>
        clear HOv HB
        obtain ⟨k, n, v, hk8, hnk, rfl, rfl, HO, HB⟩ := hrel
        by_cases hlt : k < 8
        · rcases (by omega : (k = 0 ∧ n = 7) ∨ (k = 1 ∧ n = 6) ∨ (k = 2 ∧ n = 5) ∨ (k = 3 ∧ n = 4) ∨ (k = 4 ∧ n = 3) ∨ (k = 5 ∧ n = 2) ∨ (k = 6 ∧ n = 1) ∨ (k = 7 ∧ n = 0)) with ⟨rfl, rfl⟩ | ⟨rfl, rfl⟩ | ⟨rfl, rfl⟩ | ⟨rfl, rfl⟩ | ⟨rfl, rfl⟩ | ⟨rfl, rfl⟩ | ⟨rfl, rfl⟩ | ⟨rfl, rfl⟩
          · clear hnk
            have HV := Lib.hid (take_len hls.out 0 (by omega))
            go_wp2_with (at_builtin; refine app8 rfl (.tmp 26) (.tmp 32) rfl w.heap.size v _ rfl (own8_alloc HO.out _) (some ⟨wr.heap.size, 0, none⟩) 1 1 [(m : Int) * 8 / 72057594037927936] rfl ?c10 ?c20 ?c30 ?_)
            case c10 => exact ⟨rfl, .inr ⟨_, _, rfl, by simp, one_byte wr _⟩⟩
            case c20 => have := HL4.out; simp only [List.length_append, List.length_take, List.length_cons, List.length_nil]; omega
            case c30 => have := HB.out.size; simp; omega
            intro v2 w3 ho hg
            have HB3 := Lib.hid (bel_grown8 (HB.out.alloc HB.out.size _) (own8_alloc HO.out _) hg (by have := HB.out.size; simp; omega))
            have HO3 := Lib.hid ho
            clear hg ho
            go_wp2_with fail
            go_roundw
            case rel =>
              refine ⟨0 + 1, 6, v2, by omega, by omega, rfl, rfl, Lib.hid ?_, HB3⟩
              rw [HV.out]
              refine own_eq HO3.out ?_
              simp only [Nat.reduceMul, Nat.reduceSub, Int.reducePow, Nat.mul_zero, Nat.mul_one, Nat.sub_zero, Nat.sub_self, Int.pow_zero, Int.ediv_one]
              try omega
            case measure => simp [intOf]
          · clear hnk
            have HV := Lib.hid (take_len hls.out 1 (by omega))
            go_wp2_with (at_builtin; refine app8 rfl (.tmp 26) (.tmp 32) rfl w.heap.size v _ rfl (own8_alloc HO.out _) (some ⟨wr.heap.size, 0, none⟩) 1 1 [(m : Int) * 8 / 281474976710656] rfl ?c11 ?c21 ?c31 ?_)
            case c11 => exact ⟨rfl, .inr ⟨_, _, rfl, by simp, one_byte wr _⟩⟩
            case c21 => have := HL4.out; simp only [List.length_append, List.length_take, List.length_cons, List.length_nil]; omega
            case c31 => have := HB.out.size; simp; omega
            intro v2 w3 ho hg
            have HB3 := Lib.hid (bel_grown8 (HB.out.alloc HB.out.size _) (own8_alloc HO.out _) hg (by have := HB.out.size; simp; omega))
            have HO3 := Lib.hid ho
            clear hg ho
            go_wp2_with fail
            go_roundw
            case rel =>
              refine ⟨1 + 1, 5, v2, by omega, by omega, rfl, rfl, Lib.hid ?_, HB3⟩
              rw [HV.out]
              refine own_eq2 HO3.out ?_
              simp only [Nat.reduceMul, Nat.reduceSub, Int.reducePow, Nat.mul_zero, Nat.mul_one, Nat.sub_zero, Nat.sub_self, Int.pow_zero, Int.ediv_one]
              try omega
            case measure => simp [intOf]
          · clear hnk
            have HV := Lib.hid (take_len hls.out 2 (by omega))
            go_wp2_with (at_builtin; refine app8 rfl (.tmp 26) (.tmp 32) rfl w.heap.size v _ rfl (own8_alloc HO.out _) (some ⟨wr.heap.size, 0, none⟩) 1 1 [(m : Int) * 8 / 1099511627776] rfl ?c12 ?c22 ?c32 ?_)
            case c12 => exact ⟨rfl, .inr ⟨_, _, rfl, by simp, one_byte wr _⟩⟩
            case c22 => have := HL4.out; simp only [List.length_append, List.length_take, List.length_cons, List.length_nil]; omega
            case c32 => have := HB.out.size; simp; omega
            intro v2 w3 ho hg
            have HB3 := Lib.hid (bel_grown8 (HB.out.alloc HB.out.size _) (own8_alloc HO.out _) hg (by have := HB.out.size; simp; omega))
            have HO3 := Lib.hid ho
            clear hg ho
            go_wp2_with fail
            go_roundw
            case rel =>
              refine ⟨2 + 1, 4, v2, by omega, by omega, rfl, rfl, Lib.hid ?_, HB3⟩
              rw [HV.out]
              refine own_eq2 HO3.out ?_
              simp only [Nat.reduceMul, Nat.reduceSub, Int.reducePow, Nat.mul_zero, Nat.mul_one, Nat.sub_zero, Nat.sub_self, Int.pow_zero, Int.ediv_one]
              try omega
            case measure => simp [intOf]
          · clear hnk
            have HV := Lib.hid (take_len hls.out 3 (by omega))
            go_wp2_with (at_builtin; refine app8 rfl (.tmp 26) (.tmp 32) rfl w.heap.size v _ rfl (own8_alloc HO.out _) (some ⟨wr.heap.size, 0, none⟩) 1 1 [(m : Int) * 8 / 4294967296] rfl ?c13 ?c23 ?c33 ?_)
            case c13 => exact ⟨rfl, .inr ⟨_, _, rfl, by simp, one_byte wr _⟩⟩
            case c23 => have := HL4.out; simp only [List.length_append, List.length_take, List.length_cons, List.length_nil]; omega
            case c33 => have := HB.out.size; simp; omega
            intro v2 w3 ho hg
            have HB3 := Lib.hid (bel_grown8 (HB.out.alloc HB.out.size _) (own8_alloc HO.out _) hg (by have := HB.out.size; simp; omega))
            have HO3 := Lib.hid ho
            clear hg ho
            go_wp2_with fail
            go_roundw
            case rel =>
              refine ⟨3 + 1, 3, v2, by omega, by omega, rfl, rfl, Lib.hid ?_, HB3⟩
              rw [HV.out]
              refine own_eq2 HO3.out ?_
              simp only [Nat.reduceMul, Nat.reduceSub, Int.reducePow, Nat.mul_zero, Nat.mul_one, Nat.sub_zero, Nat.sub_self, Int.pow_zero, Int.ediv_one]
              try omega
            case measure => simp [intOf]
          · clear hnk
            have HV := Lib.hid (take_len hls.out 4 (by omega))
            go_wp2_with (at_builtin; refine app8 rfl (.tmp 26) (.tmp 32) rfl w.heap.size v _ rfl (own8_alloc HO.out _) (some ⟨wr.heap.size, 0, none⟩) 1 1 [(m : Int) * 8 / 16777216 % 256] rfl ?c14 ?c24 ?c34 ?_)
            case c14 => exact ⟨rfl, .inr ⟨_, _, rfl, by simp, one_byte wr _⟩⟩
            case c24 => have := HL4.out; simp only [List.length_append, List.length_take, List.length_cons, List.length_nil]; omega
            case c34 => have := HB.out.size; simp; omega
            intro v2 w3 ho hg
            have HB3 := Lib.hid (bel_grown8 (HB.out.alloc HB.out.size _) (own8_alloc HO.out _) hg (by have := HB.out.size; simp; omega))
            have HO3 := Lib.hid ho
            clear hg ho
            go_wp2_with fail
            go_roundw
            case rel =>
              refine ⟨4 + 1, 2, v2, by omega, by omega, rfl, rfl, Lib.hid ?_, HB3⟩
              rw [HV.out]
              refine own_eq2 HO3.out ?_
              simp only [Nat.reduceMul, Nat.reduceSub, Int.reducePow, Nat.mul_zero, Nat.mul_one, Nat.sub_zero, Nat.sub_self, Int.pow_zero, Int.ediv_one]
              try omega
            case measure => simp [intOf]
          · clear hnk
            have HV := Lib.hid (take_len hls.out 5 (by omega))
            go_wp2_with (at_builtin; refine app8 rfl (.tmp 26) (.tmp 32) rfl w.heap.size v _ rfl (own8_alloc HO.out _) (some ⟨wr.heap.size, 0, none⟩) 1 1 [(m : Int) * 8 / 65536 % 256] rfl ?c15 ?c25 ?c35 ?_)
            case c15 => exact ⟨rfl, .inr ⟨_, _, rfl, by simp, one_byte wr _⟩⟩
            case c25 => have := HL4.out; simp only [List.length_append, List.length_take, List.length_cons, List.length_nil]; omega
            case c35 => have := HB.out.size; simp; omega
            intro v2 w3 ho hg
            have HB3 := Lib.hid (bel_grown8 (HB.out.alloc HB.out.size _) (own8_alloc HO.out _) hg (by have := HB.out.size; simp; omega))
            have HO3 := Lib.hid ho
            clear hg ho
            go_wp2_with fail
            go_roundw
            case rel =>
              refine ⟨5 + 1, 1, v2, by omega, by omega, rfl, rfl, Lib.hid ?_, HB3⟩
              rw [HV.out]
              refine own_eq2 HO3.out ?_
              simp only [Nat.reduceMul, Nat.reduceSub, Int.reducePow, Nat.mul_zero, Nat.mul_one, Nat.sub_zero, Nat.sub_self, Int.pow_zero, Int.ediv_one]
              try omega
            case measure => simp [intOf]
          · clear hnk
            have HV := Lib.hid (take_len hls.out 6 (by omega))
            go_wp2_with (at_builtin; refine app8 rfl (.tmp 26) (.tmp 32) rfl w.heap.size v _ rfl (own8_alloc HO.out _) (some ⟨wr.heap.size, 0, none⟩) 1 1 [(m : Int) * 8 / 256 % 256] rfl ?c16 ?c26 ?c36 ?_)
            case c16 => exact ⟨rfl, .inr ⟨_, _, rfl, by simp, one_byte wr _⟩⟩
            case c26 => have := HL4.out; simp only [List.length_append, List.length_take, List.length_cons, List.length_nil]; omega
            case c36 => have := HB.out.size; simp; omega
            intro v2 w3 ho hg
            have HB3 := Lib.hid (bel_grown8 (HB.out.alloc HB.out.size _) (own8_alloc HO.out _) hg (by have := HB.out.size; simp; omega))
            have HO3 := Lib.hid ho
            clear hg ho
            go_wp2_with fail
            go_roundw
            case rel =>
              refine ⟨6 + 1, 0, v2, by omega, by omega, rfl, rfl, Lib.hid ?_, HB3⟩
              rw [HV.out]
              refine own_eq2 HO3.out ?_
              simp only [Nat.reduceMul, Nat.reduceSub, Int.reducePow, Nat.mul_zero, Nat.mul_one, Nat.sub_zero, Nat.sub_self, Int.pow_zero, Int.ediv_one]
              try omega
            case measure => simp [intOf]
          · clear hnk
            have HV := Lib.hid (take_len hls.out 7 (by omega))
            go_wp2_with (at_builtin; refine app8 rfl (.tmp 26) (.tmp 32) rfl w.heap.size v _ rfl (own8_alloc HO.out _) (some ⟨wr.heap.size, 0, none⟩) 1 1 [(m : Int) * 8 % 256] rfl ?c17 ?c27 ?c37 ?_)
            case c17 => exact ⟨rfl, .inr ⟨_, _, rfl, by simp, one_byte wr _⟩⟩
            case c27 => have := HL4.out; simp only [List.length_append, List.length_take, List.length_cons, List.length_nil]; omega
            case c37 => have := HB.out.size; simp; omega
            intro v2 w3 ho hg
            have HB3 := Lib.hid (bel_grown8 (HB.out.alloc HB.out.size _) (own8_alloc HO.out _) hg (by have := HB.out.size; simp; omega))
            have HO3 := Lib.hid ho
            clear hg ho
            go_wp2_with fail
            go_roundw
            case rel =>
              refine ⟨7 + 1, -1, v2, by omega, by omega, rfl, rfl, Lib.hid ?_, HB3⟩
              rw [HV.out]
              refine own_eq2 HO3.out ?_
              simp only [Nat.reduceMul, Nat.reduceSub, Int.reducePow, Nat.mul_zero, Nat.mul_one, Nat.sub_zero, Nat.sub_self, Int.pow_zero, Int.ediv_one]
              try omega
            case measure => simp [intOf]
        · obtain rfl : k = 8 := by omega
          obtain rfl : n = -1 := by omega
          have ho := HO.out
          rw [List.take_of_length_le (by rw [hls.out.1]; omega)] at ho
          have HE := Lib.hid ho
          clear ho
          go_wp2_with fail
          go_ret
          exact ⟨v, rfl, by rw [HP.out]; exact HE.out, HB.out⟩
end Go.Proofs.YtjdkdhpippapmaaGreatDoor
namespace Go.Proofs.YtjdkdhpippapmaaGreatDoor
open Go.RowKit
set_option linter.unusedVariables false
set_option linter.unusedSimpArgs false

theorem rblock_blk (s : S8) (b off cap : Nat) (bs : List Int) (w : World) (hl : Hid (bs.length = 64)) (hcap : 64 ≤ cap) (hmax : cap ≤ 9223372036854775807) (hb : b < w.heap.size)
    (hc : Hid (BytesAt w b off bs)) (hr : Hid (∀ z ∈ bs, 0 ≤ z ∧ z ≤ 255)) :
    Calls Tryz.prog 139 #[.agg #[.int .u32 s.a, .int .u32 s.b, .int .u32 s.c, .int .u32 s.d, .int .u32 s.e, .int .u32 s.f, .int .u32 s.g, .int .u32 s.h], .slice (some ⟨b, off, none⟩) 64 cap] w
      fun e w' => e = .returned (.agg (wv (block s bs).toList).toArray) ∧ Below w.heap.size w w' :=
  rblock_any s b off cap bs w hl hcap hmax hb hc hr (schedL bs 48) (Lib.hid (isSched bs)) (rounds bs s) (Lib.hid ⟨rfl, fun t ht => rfl⟩)
theorem gr_fill {w : World} {b : Nat} : ∀ (vs : List Value) (o : Nat) {w1 : World}, w.grownBy w1 (some b) → w.grownBy (w1.setCells b o vs) (some b)
  | [], _, _, h => h
  | v :: l, o, _, h => gr_fill l (o + 1) (gr_set h)
theorem h0Blk (w : World) : Blk (w.alloc (.cells #[.int .u32 1779033703, .int .u32 3144134277, .int .u32 1013904242, .int .u32 2773480762, .int .u32 1359893119, .int .u32 2600822924, .int .u32 528734635, .int .u32 1541459225] 137)) w.heap.size (wv S8.h0.toList).toArray 137 := Blk.new w _ _
theorem load8 {w : World} {b : Nat} {s : S8} (h : Blk w b (wv s.toList).toArray 137) : (Instr.loadAt 137 (.pointer (some ⟨b, 0, none⟩))).run Tryz.prog w = .ok (.agg #[.int .u32 s.a, .int .u32 s.b, .int .u32 s.c, .int .u32 s.d, .int .u32 s.e, .int .u32 s.f, .int .u32 s.g, .int .u32 s.h]) w :=
  run_loadAt_mid w b 0 137 (wv s.toList) _ h.range Tryz.underlying137 rfl (sizeT8' _ rfl)
theorem pad_all {bs T : List Int} {m : Nat} (hm : m = bs.length) (hT : (bs ++ [128] ++ List.replicate (zerosN m) 0) ++ lenB m = T) : shaPad bs = T := by
  unfold shaPad
  rw [← hT, ← hm]
  simp

set_option maxRecDepth 100000 in
set_option maxHeartbeats 1000000 in
theorem rsum_any (p : Option Addr) (m cap : Nat) (bs : List Int) (w : World) (hz : Hid (SrcW w p m cap bs)) (hr : Hid (∀ z ∈ bs, 0 ≤ z ∧ z ≤ 255)) (hn : m ≤ 1000000000) (ds : List Int) (hds : Hid (IsSha bs ds)) :
    Calls Tryz.prog 135 #[.slice p m cap] w fun e w' => e = .returned (.agg (bv ds).toArray) ∧ Below w.heap.size w w' := by
  have hml := Lib.hid hz.out.len
  go_enter Tryz.func135, Tryz.ntmps135
  go_upto_region 2 with (fail)
  generalize hW : World.alloc _ _ = W1
  have T1 : Hid (Blk W1 w.heap.size (bv (List.replicate 32 0)).toArray 23) := Lib.hid (by rw [← hW]; exact (zeros32 w).alloc _)
  have S1 : Hid (Blk W1 (w.heap.size + 1) (wv S8.h0.toList).toArray 137) := Lib.hid (by
    rw [← hW]
    have h := h0Blk (w.alloc (.cells (bv (List.replicate 32 0)).toArray 23))
    simp only [World.size_alloc] at h
    exact h)
  have B1 : Hid (Below w.heap.size w W1) := Lib.hid (by rw [← hW]; exact (bel_alloc1 _ _).alloc (by simp) _)
  clear hW
  obtain ⟨sb, hsb⟩ : ∃ sb, w.heap.size + 1 = sb := ⟨_, rfl⟩
  rw [hsb] at S1 ⊢
  have l1 := S1.out.lt
  go_wp2_with fail
  refine (rpad_any p m cap bs W1 (Lib.hid (hz.out.below B1.out)) hn (lenB m) (Lib.hid (isLen m hn)) (zerosN m) (by unfold zerosN; omega) (by unfold zerosN; omega)).mono ?_
  rintro e w2 ⟨v, rfl, hO, hb2⟩
  obtain ⟨T, hTT⟩ : ∃ T, (bs ++ [128] ++ List.replicate (zerosN m) 0) ++ lenB m = T := ⟨_, rfl⟩
  rw [hTT] at hO
  have HPD := Lib.hid (pad_all hml.out hTT)
  obtain ⟨pt, ct, rfl, hsrc, hct, hct2, hfresh⟩ := own8_src hO
  obtain ⟨q2, hq4, hqp⟩ : ∃ q2, T.length = 64 * q2 ∧ 0 < q2 := by
    rw [← hTT]
    simp only [List.length_append, List.length_replicate, List.length_singleton, ← hml.out, zerosN, lenB, List.length_map, List.length_range]
    exact ⟨(m + 1 + (119 - m % 64) % 64 + 8) / 64, by omega, by omega⟩
  have hTr := Lib.hid (show ∀ z ∈ T, 0 ≤ z ∧ z ≤ 255 by rw [← hTT]; have := tail_rng (k := 0) (c := zerosN m) hr.out m; rwa [List.drop_zero] at this)
  clear hTT hO
  obtain ⟨_, ⟨rfl, h0, _⟩ | ⟨tb, toff, rfl, htb, hTb⟩⟩ := hsrc
  · omega
  have HTb := Lib.hid hTb
  have htb2 : sb < tb := by have := hfresh _ rfl; simp at this; omega
  have hct3 : ct ≤ 9223372036854775807 := by have : maxLen ≤ 9223372036854775807 := by decide
                                             omega
  rw [hq4] at hct ⊢
  have S2 := Lib.hid (S1.out.below hb2 S1.out.lt)
  have T2 := Lib.hid (T1.out.below hb2 T1.out.lt)
  have B2 := Lib.hid (B1.out.trans (hb2.mono B1.out.size))
  have hq5 := Lib.hid hq4
  clear hq4 hfresh hTb hb2 S1 T1 B1 l1
  go_wp2_with fail
  go_loopw [5] (fun x wr => ∃ j : Nat, j ≤ q2 ∧ x = .int .i64 (64 * (j : Int)) ∧ Hid (Blk wr sb (wv (blocksN S8.h0 T j).toList).toArray 137) ∧ Hid (w2.grownBy wr (some sb))) (fun x _ => 64 * q2 - (intOf x).toNat)
  case atStart => exact ⟨0, by omega, rfl, S2, Lib.hid (gr_refl _ _)⟩
  case round =>
    clear S2
    obtain ⟨j, hj, rfl, hS, hG⟩ := hrel
    by_cases hlj : j < q2
    · have hbl : tb < wr.heap.size := Nat.lt_of_lt_of_le htb hG.out.size
      obtain ⟨st, hst⟩ : ∃ st, blocksN S8.h0 T j = st := ⟨_, rfl⟩
      have HST := Lib.hid hst
      rw [hst] at hS
      have ls := hS.out.lt
      have cS0 : wr.cell? ⟨sb, 0, none⟩ = some (.int .u32 st.a) := hS.out.cell 0
      have cS1 : wr.cell? ⟨sb, 1, none⟩ = some (.int .u32 st.b) := hS.out.cell 1
      have cS2 : wr.cell? ⟨sb, 2, none⟩ = some (.int .u32 st.c) := hS.out.cell 2
      have cS3 : wr.cell? ⟨sb, 3, none⟩ = some (.int .u32 st.d) := hS.out.cell 3
      have cS4 : wr.cell? ⟨sb, 4, none⟩ = some (.int .u32 st.e) := hS.out.cell 4
      have cS5 : wr.cell? ⟨sb, 5, none⟩ = some (.int .u32 st.f) := hS.out.cell 5
      have cS6 : wr.cell? ⟨sb, 6, none⟩ = some (.int .u32 st.g) := hS.out.cell 6
      have cS7 : wr.cell? ⟨sb, 7, none⟩ = some (.int .u32 st.h) := hS.out.cell 7
      clear hst
      go_wp2_with fail
      have wS : IntKind.i64.wrap (64 * (j : Int) + 64) = 64 * (j : Int) + 64 := by rw [IntKind.wrap_i64]; omega
      have f1 : (0 : Int) ≤ 64 * (j : Int) + 64 := by omega
      have f2 : 64 * (j : Int) + 64 ≤ (ct : Int) := by omega
      have f3 : (0 : Int) ≤ 64 * (j : Int) := by omega
      have f4 : 64 * (j : Int) ≤ max (64 * (j : Int) + 64) 0 := by omega
      have f5 : ct ≠ 64 * j := by omega
      have f6 : 64 * (j : Int) ≤ 64 * (j : Int) + 64 := by omega
      have t1 : (64 * (j : Int)).toNat = 64 * j := by omega
      have t2 : (64 * (j : Int) + 64).toNat = 64 * j + 64 := by omega
      have t3 : 64 * j + 64 - 64 * j = 64 := by omega
      refine wp_region_still_tail 6 (by kernel_rfl) (by kernel_rfl) ?_
      change wpStill _ _ wr.drew _ _ _
      simp only [List.take_succ_cons, List.take_zero, List.drop_succ_cons, List.drop_zero]
      iterate 6 still_step
      refine wpStill_nil ?_
      change wpList _ _ _ _ _ wr.drew
      clear wS f1 f2 f3 f4 f5 f6 t1 t2 t3
      go_wp2_with fail
      refine (rblock_blk st tb (toff + 64 * j) (ct - 64 * j) ((T.drop (64 * j)).take 64) wr.drew (Lib.hid ?a1) (by omega) (by omega) hbl (Lib.hid ?a3) (Lib.hid ?a4)).mono ?_
      case a1 => rw [List.length_take, List.length_drop]; have := hq5.out; omega
      case a3 => exact ((gr_bytes hG.out HTb.out htb (by omega)).drop (64 * j)).take 64
      case a4 => exact fun z hz => hTr.out z (List.mem_of_mem_drop (List.mem_of_mem_take hz))
      rintro e w3 ⟨rfl, hb3⟩
      have HG3 := Lib.hid (gr_below (gr_drew hG.out) hb3)
      have HS3 := Lib.hid (show Blk w3 sb (wv st.toList).toArray 137 from (show Blk wr.drew sb _ _ from hS.out).below hb3 hS.out.lt)
      have HSS : Hid ((block st ((T.drop (64 * j)).take 64)).toList = (blocksN S8.h0 T (j + 1)).toList) := Lib.hid (by rw [← HST.out]; rfl)
      have HL8 : Hid ((block st ((T.drop (64 * j)).take 64)).toList.length = 8) := Lib.hid rfl
      clear hb3 cS0 cS1 cS2 cS3 cS4 cS5 cS6 cS7 hS hG
      generalize (block st ((T.drop (64 * j)).take 64)).toList = L8 at HSS HL8 ⊢
      have q4 : w3.there sb 0 (wv L8).toArray.size := by have := HS3.out.there; rw [show (wv L8).toArray.size = (wv st.toList).length by simp [wv, HL8.out]; rfl]; exact this
      have q5 : (Tryz.prog.info? 137).map (·.size) = some (wv L8).toArray.size := sizeT8 _ HL8.out
      have q6 := all_oneCell_toArray (wv_one L8)
      go_wp2_with (refine wpList_store_mid rfl 137 (.tmp 3) (.tmp 23) rfl sb 0 (wv L8).toArray rfl rfl q4 q5 q6 ?_)
      have hf : Blk (w3.setCells sb 0 (wv L8).toArray.toList) sb (wv L8).toArray 137 := HS3.out.fill (by simp [wv, HL8.out]; rfl)
      have hg : w2.grownBy (w3.setCells sb 0 (wv L8).toArray.toList) (some sb) := gr_fill _ _ HG3.out
      have HF := Lib.hid hf; have HG := Lib.hid hg
      clear hf hg q4 q5 q6 HS3 HG3
      go_roundw
      case rel => exact ⟨j + 1, by omega, by simp; omega, Lib.hid (by rw [← HSS.out]; exact HF.out), HG⟩
      case measure => simp [intOf]; omega
    · obtain rfl : j = q2 := by omega
      have T3 := Lib.hid (gr_blk hG.out T2.out (by omega))
      have B3 := Lib.hid (bel_gr B2.out hG.out (by omega) B2.out.size)
      obtain ⟨st, hst⟩ : ∃ st, blocksN S8.h0 T j = st := ⟨_, rfl⟩
      rw [hst] at hS
      have hd : Hid (IsBytes st ds) := Lib.hid (by
        rw [← hds.out.eq, show sha bs = bytesS (blocksN S8.h0 T j) by unfold sha blocks; rw [HPD.out, hq5.out, Nat.mul_div_cancel_left j (by omega)], hst]
        exact isBytes _)
      clear hst hG T2 B2 HPD
      have hz32 : (List.replicate 32 (0 : Int)).length = 32 := by simp
      have hlit : [.int .u8 0, .int .u8 0, .int .u8 0, .int .u8 0, .int .u8 0, .int .u8 0, .int .u8 0, .int .u8 0, .int .u8 0, .int .u8 0, .int .u8 0, .int .u8 0, .int .u8 0, .int .u8 0, .int .u8 0, .int .u8 0, .int .u8 0, .int .u8 0, .int .u8 0, .int .u8 0, .int .u8 0, .int .u8 0, .int .u8 0, .int .u8 0, .int .u8 0, .int .u8 0, .int .u8 0, .int .u8 0, .int .u8 0, .int .u8 0, .int .u8 0, .int .u8 0] = bv (List.replicate 32 0) := rfl
      have q1 : (wr.alloc (.cells #[.int .u8 0, .int .u8 0, .int .u8 0, .int .u8 0, .int .u8 0, .int .u8 0, .int .u8 0, .int .u8 0, .int .u8 0, .int .u8 0, .int .u8 0, .int .u8 0, .int .u8 0, .int .u8 0, .int .u8 0, .int .u8 0, .int .u8 0, .int .u8 0, .int .u8 0, .int .u8 0, .int .u8 0, .int .u8 0, .int .u8 0, .int .u8 0, .int .u8 0, .int .u8 0, .int .u8 0, .int .u8 0, .int .u8 0, .int .u8 0, .int .u8 0, .int .u8 0] 23)).there wr.heap.size 0 (bv (List.replicate 32 0)).toArray.size := by have := (zeros32 wr).there; simpa using this
      have hfz : Blk (wr.alloc (.cells #[.int .u8 0, .int .u8 0, .int .u8 0, .int .u8 0, .int .u8 0, .int .u8 0, .int .u8 0, .int .u8 0, .int .u8 0, .int .u8 0, .int .u8 0, .int .u8 0, .int .u8 0, .int .u8 0, .int .u8 0, .int .u8 0, .int .u8 0, .int .u8 0, .int .u8 0, .int .u8 0, .int .u8 0, .int .u8 0, .int .u8 0, .int .u8 0, .int .u8 0, .int .u8 0, .int .u8 0, .int .u8 0, .int .u8 0, .int .u8 0, .int .u8 0, .int .u8 0] 23)) wr.heap.size (bv (List.replicate 32 0)).toArray 23 := zeros32 wr
      generalize List.replicate 32 (0 : Int) = zz at hz32 hlit q1 hfz
      have HZ32 := Lib.hid hz32
      have HL := Lib.hid hlit
      have HFZ := Lib.hid hfz
      have q2 := size32 zz hz32
      have q3 := all_oneCell_toArray (bv_one zz)
      clear hlit hfz hz32
      go_upto_region 8 with (refine wpList_store_mid rfl 23 (.tmp 6) (.tmp 24) rfl wr.heap.size 0 (bv zz).toArray rfl ?hy q1 q2 q3 ?_)
      case hy => first | exact HL.out | exact congrArg (fun l => Value.agg (List.toArray l)) HL.out
      simp only [Act.put]
      generalize hW5 : World.setCells _ _ _ _ = W5
      have ZB : Hid (Blk W5 wr.heap.size (bv zz).toArray 23) := Lib.hid (by rw [← hW5]; exact HFZ.out.fill rfl)
      have SB : Hid (Blk W5 sb (wv st.toList).toArray 137) := Lib.hid (by rw [← hW5]; exact Blk.others (Nat.ne_of_lt hS.out.lt) _ _ (hS.out.alloc _))
      have TB : Hid (Blk W5 w.heap.size (bv (List.replicate 32 0)).toArray 23) := Lib.hid (by rw [← hW5]; exact Blk.others (Nat.ne_of_lt T3.out.lt) _ _ (T3.out.alloc _))
      have BB : Hid (Below w.heap.size w W5) := Lib.hid (by rw [← hW5]; exact setCells_below B3.out.size _ _ (B3.out.alloc B3.out.size _))
      clear q1 q2 q3 HL HFZ
      have hsl := hS.out.lt
      have hwl := B3.out.size
      clear hW5 hS T3 B3
      obtain ⟨db, hdb'⟩ : ∃ db, wr.heap.size = db := ⟨_, rfl⟩
      rw [hdb'] at ZB hsl hwl ⊢
      have hdb : w.heap.size ≤ db := hwl
      have hwd : w.heap.size < db := by omega
      clear hdb'
      go_wp2_with fail
      go_loopw [7] (fun x wr => ∃ (i : Nat) (n : Int) (zs : List Int), i ≤ 32 ∧ n = i ∧ x = .int .i64 n ∧ Hid (zs.length = 32) ∧ Hid (∀ j, j < i → zs.getD j 0 = ds.getD j 0) ∧ Hid (Blk wr db (bv zs).toArray 23) ∧ Hid (Blk wr sb (wv st.toList).toArray 137 ∧ Blk wr w.heap.size (bv (List.replicate 32 0)).toArray 23) ∧ Hid (Below w.heap.size w wr)) (fun x _ => 32 - (intOf x).toNat)
      case atStart => exact ⟨0, 0, zz, by omega, rfl, rfl, HZ32, Lib.hid fun j hj => by omega, ZB, Lib.hid ⟨SB.out, TB.out⟩, BB⟩
      case round =>
        clear ZB SB TB BB
        obtain ⟨i, n, zs, hi32, hn', rfl, hz, hv, HT, HS, HB⟩ := hrel
        have lT := HT.out.lt
        have lS := HS.out.1.lt
        by_cases hlt : i < 32
        · subst hn'
          obtain ⟨a, hi4, ha⟩ : ∃ a, i / 4 = a ∧ a < 8 := ⟨_, rfl, by omega⟩
          have hq4 : (i : Int) / 4 = (a : Int) := by omega
          have e1 := HS.out.1.cell a
          rw [wv_get _ a (by show a < 8; exact ha)] at e1
          obtain ⟨x, hx⟩ : ∃ x, st.toList.getD a 0 = x := ⟨_, rfl⟩
          rw [hx] at e1
          have HX := Lib.hid hx
          have e0 := HT.out.cell i
          rw [bv_get zs i (by have := hz.out; omega)] at e0
          generalize zs.getD i 0 = y at e0
          have f0 := HT.out.frozen i
          clear hx
          rcases (by omega : i % 4 = 0 ∨ i % 4 = 1 ∨ i % 4 = 2 ∨ i % 4 = 3) with hm4 | hm4 | hm4 | hm4
          · have hr4 : (i : Int) % 4 = 0 := by omega
            have HV := Lib.hid (hd.out.2 a ha 0 (by omega))
            rw [HX.out] at HV
            have HI := Lib.hid hi4
            clear hi4
            go_wp2_with fail
            go_roundw
            case rel =>
              have hi4 := HI.out
              have hb := HT.out.set i (.int .u8 (ds.getD i 0))
              rw [bv_set] at hb
              refine ⟨i + 1, i + 1, zs.set i (ds.getD i 0), by omega, by omega, rfl, Lib.hid (by rw [List.length_set]; exact hz.out), Lib.hid (set_inv32 hz.out hlt hv.out rfl), Lib.hid ?_, Lib.hid ?_, Lib.hid ?_⟩
              · have h := HV.out
                simp only [Nat.mul_zero, Nat.mul_one, Nat.reduceMul, Nat.reduceSub, Nat.sub_zero, Int.reducePow, Nat.add_zero, Nat.sub_self, Int.pow_zero, Int.ediv_one] at h
                rw [show 4 * a = i by omega] at h
                rw [h]
                exact hb
              · exact ⟨HS.out.1.other (b' := db) _ _ (by omega), HS.out.2.other (b' := db) _ _ (by omega)⟩
              · exact HB.out.setCell (p := ⟨db, i, none⟩) hdb _
            case measure => simp [intOf]; omega
          · have hr4 : (i : Int) % 4 = 1 := by omega
            have HV := Lib.hid (hd.out.2 a ha 1 (by omega))
            rw [HX.out] at HV
            have HI := Lib.hid hi4
            clear hi4
            go_wp2_with fail
            go_roundw
            case rel =>
              have hi4 := HI.out
              have hb := HT.out.set i (.int .u8 (ds.getD i 0))
              rw [bv_set] at hb
              refine ⟨i + 1, i + 1, zs.set i (ds.getD i 0), by omega, by omega, rfl, Lib.hid (by rw [List.length_set]; exact hz.out), Lib.hid (set_inv32 hz.out hlt hv.out rfl), Lib.hid ?_, Lib.hid ?_, Lib.hid ?_⟩
              · have h := HV.out
                simp only [Nat.mul_zero, Nat.mul_one, Nat.reduceMul, Nat.reduceSub, Nat.sub_zero, Int.reducePow, Nat.add_zero, Nat.sub_self, Int.pow_zero, Int.ediv_one] at h
                rw [show 4 * a + 1 = i by omega] at h
                rw [h]
                exact hb
              · exact ⟨HS.out.1.other (b' := db) _ _ (by omega), HS.out.2.other (b' := db) _ _ (by omega)⟩
              · exact HB.out.setCell (p := ⟨db, i, none⟩) hdb _
            case measure => simp [intOf]; omega
          · have hr4 : (i : Int) % 4 = 2 := by omega
            have HV := Lib.hid (hd.out.2 a ha 2 (by omega))
            rw [HX.out] at HV
            have HI := Lib.hid hi4
            clear hi4
            go_wp2_with fail
            go_roundw
            case rel =>
              have hi4 := HI.out
              have hb := HT.out.set i (.int .u8 (ds.getD i 0))
              rw [bv_set] at hb
              refine ⟨i + 1, i + 1, zs.set i (ds.getD i 0), by omega, by omega, rfl, Lib.hid (by rw [List.length_set]; exact hz.out), Lib.hid (set_inv32 hz.out hlt hv.out rfl), Lib.hid ?_, Lib.hid ?_, Lib.hid ?_⟩
              · have h := HV.out
                simp only [Nat.mul_zero, Nat.mul_one, Nat.reduceMul, Nat.reduceSub, Nat.sub_zero, Int.reducePow, Nat.add_zero, Nat.sub_self, Int.pow_zero, Int.ediv_one] at h
                rw [show 4 * a + 2 = i by omega] at h
                rw [h]
                exact hb
              · exact ⟨HS.out.1.other (b' := db) _ _ (by omega), HS.out.2.other (b' := db) _ _ (by omega)⟩
              · exact HB.out.setCell (p := ⟨db, i, none⟩) hdb _
            case measure => simp [intOf]; omega
          · have hr4 : (i : Int) % 4 = 3 := by omega
            have HV := Lib.hid (hd.out.2 a ha 3 (by omega))
            rw [HX.out] at HV
            have HI := Lib.hid hi4
            clear hi4
            go_wp2_with fail
            go_roundw
            case rel =>
              have hi4 := HI.out
              have hb := HT.out.set i (.int .u8 (ds.getD i 0))
              rw [bv_set] at hb
              refine ⟨i + 1, i + 1, zs.set i (ds.getD i 0), by omega, by omega, rfl, Lib.hid (by rw [List.length_set]; exact hz.out), Lib.hid (set_inv32 hz.out hlt hv.out rfl), Lib.hid ?_, Lib.hid ?_, Lib.hid ?_⟩
              · have h := HV.out
                simp only [Nat.mul_zero, Nat.mul_one, Nat.reduceMul, Nat.reduceSub, Nat.sub_zero, Int.reducePow, Nat.add_zero, Nat.sub_self, Int.pow_zero, Int.ediv_one] at h
                rw [show 4 * a + 3 = i by omega] at h
                rw [h]
                exact hb
              · exact ⟨HS.out.1.other (b' := db) _ _ (by omega), HS.out.2.other (b' := db) _ _ (by omega)⟩
              · exact HB.out.setCell (p := ⟨db, i, none⟩) hdb _
            case measure => simp [intOf]; omega
        · obtain rfl : n = 32 := by omega
          obtain rfl : i = 32 := by omega
          clear hn' hlt hi32
          have HE := same32 hz.out hd.out.1 hv.out
          subst HE
          have hz' := hz.out
          have q1 := HT.out.range
          have q2' := size32' zs hz'
          have q3 := size32 zs hz'
          have q4 : wr.there w.heap.size 0 (bv zs).toArray.size := by have := HS.out.2.there; simp only [bv_len, List.length_replicate] at this; simp only [List.size_toArray, bv_len, hz']; exact this
          have q5 := all_oneCell_toArray (bv_one zs)
          go_upto_region 12 with (fail)
          go_wp2_with (first
            | refine wpList_load_mid rfl 23 (.tmp 6) rfl db 0 rfl (bv zs) _ q1 Tryz.underlying23 rfl q2' ?_
            | refine wpList_store_mid rfl 23 (.tmp 2) (.tmp 41) rfl w.heap.size 0 (bv zs).toArray rfl rfl q4 q3 q5 ?_)
          refine bodyPost_ret (v := .agg (bv zs).toArray) (results_cell1 (a := ⟨w.heap.size, 0, none⟩) rfl _ rfl (run_loadVar_mid _ w.heap.size 0 _ (bv zs) _ (HS.out.2.fill (by rw [bv_len, bv_len, hz', List.length_replicate])).range Tryz.underlying23 rfl q2')) rfl ⟨rfl, setCells_below (Nat.le_refl _) _ _ HB.out⟩
end Go.Proofs.YtjdkdhpippapmaaGreatDoor
namespace Go.Proofs.YtjdkdhpippapmaaGreatDoor
open Go.RowKit
set_option linter.unusedVariables false
set_option linter.unusedSimpArgs false

set_option maxRecDepth 100000 in
set_option maxHeartbeats 2000000 in
theorem rtagged_any (s : ByteArray) (p : Option Addr) (m cap : Nat) (bs : List Int) (w : World) (hz : Hid (SrcW w p m cap bs)) (hr : Hid (∀ z ∈ bs, 0 ≤ z ∧ z ≤ 255)) (hs : s.size ≤ 100000000) (hn : m ≤ 100000000) (ts ds : List Int) (hts : Hid (IsSha (strL s) ts)) (hds : Hid (IsSha (ts ++ bs) ds)) :
    Calls Tryz.prog 117 #[.string s, .slice p m cap] w fun e w' => e = .returned (.agg (bv ds).toArray) ∧ Below w.heap.size w w' := by
  go_enter Tryz.func117, Tryz.ntmps117
  go_upto_region 1 with (fail)
  generalize hW : w.alloc _ = W1
  have T1 := Lib.hid (show Blk W1 w.heap.size (bv (List.replicate 32 0)).toArray 23 by rw [← hW]; exact zeros32 w)
  have B1 := Lib.hid (show Below w.heap.size w W1 by rw [← hW]; exact bel_alloc1 _ _)
  clear hW
  have kc := run_bytes_of_string (P := Tryz.prog) W1 9 48 5 s Tryz.underlying9 Tryz.underlying48 Tryz.underlying5
  have hcl := grownCap_ge W1 s.size 0 5
  have hcu := grownCap_le_maxLen W1 s.size 0 5 (by unfold maxLen; omega)
  have hml : maxLen ≤ 9223372036854775807 := by decide
  generalize grownCap W1 s.size 0 5 = c1 at kc hcl hcu
  go_wp2_with fail
  refine (rsum_any (some ⟨W1.heap.size, 0, none⟩) s.size c1 (strL s) _ (Lib.hid ?e1) (Lib.hid (strL_rng s)) (by omega) ts hts).mono ?_
  case e1 => exact .inl ⟨(strL_len s).symm, .inr ⟨_, 0, rfl, by simp, str_at W1 s c1 _⟩⟩
  rintro e w3 ⟨rfl, hb3⟩
  have T3 := Lib.hid (((T1.out.alloc _).drew).below hb3 (by have := T1.out.lt; simp; omega))
  have B3 := Lib.hid (((B1.out.alloc B1.out.size _).drew).trans (hb3.mono (by have := B1.out.size; simp; omega)))
  clear hb3 kc T1 B1 hcl hcu
  have ht32 : ts.length = 32 := by rw [← hts.out.eq]; exact sha_len _
  have q1 := size32' ts ht32
  have q3 := size32 ts ht32
  have q4 : (w3.alloc (.cells #[.int .u8 0, .int .u8 0, .int .u8 0, .int .u8 0, .int .u8 0, .int .u8 0, .int .u8 0, .int .u8 0, .int .u8 0, .int .u8 0, .int .u8 0, .int .u8 0, .int .u8 0, .int .u8 0, .int .u8 0, .int .u8 0, .int .u8 0, .int .u8 0, .int .u8 0, .int .u8 0, .int .u8 0, .int .u8 0, .int .u8 0, .int .u8 0, .int .u8 0, .int .u8 0, .int .u8 0, .int .u8 0, .int .u8 0, .int .u8 0, .int .u8 0, .int .u8 0] 23)).there w3.heap.size 0 (bv ts).toArray.size := by have := (zeros32 w3).there; simp only [bv_len, List.length_replicate] at this; simp only [List.size_toArray, bv_len, ht32]; exact this
  have q5 := all_oneCell_toArray (bv_one ts)
  go_upto_region 2 with (refine wpList_store_mid rfl 23 _ _ rfl w3.heap.size 0 (bv ts).toArray rfl rfl q4 q3 q5 ?_)
  simp only [Act.put]
  generalize hW4 : World.setCells _ _ _ _ = W4
  have A4 := Lib.hid (show Blk W4 w3.heap.size (bv ts).toArray 23 by rw [← hW4]; exact (zeros32 w3).fill (by rw [bv_len, bv_len, ht32, List.length_replicate]))
  have T4 := Lib.hid (show Blk W4 w.heap.size (bv (List.replicate 32 0)).toArray 23 by rw [← hW4]; exact Blk.others (Nat.ne_of_lt T3.out.lt) _ _ (T3.out.alloc _))
  have B4 := Lib.hid (show Below w.heap.size w W4 by rw [← hW4]; exact setCells_below B3.out.size _ _ (B3.out.alloc B3.out.size _))
  have la := A4.out.lt
  clear hW4 q1 q3 q4 q5 T3 B3
  obtain ⟨ab, hab⟩ : ∃ ab, w3.heap.size = ab := ⟨_, rfl⟩
  rw [hab] at A4 la ⊢
  clear hab
  have H32 := Lib.hid ht32
  have hzl := Lib.hid hz.out.len
  clear ht32
  go_wp2_with (at_builtin; refine app8 rfl (.tmp 9) (.tmp 10) rfl W4.heap.size (.slice (some ⟨W4.heap.size, 0, none⟩) 0 0) [] rfl ?f0 (some ⟨ab, 0, none⟩) 32 32 ts rfl ?f1 ?f2 ?f3 ?_)
  case f0 => exact own8_empty W4
  case f1 => exact ⟨H32.out.symm, .inr ⟨ab, 0, rfl, by simp; omega, (bytes_run A4.out).below (bel_alloc1 _ _) la⟩⟩
  case f2 => have := H32.out; simp; omega
  case f3 => simp
  intro v5 w5 ho hg
  have b5 : Below W4.heap.size W4 w5 := bel_grown8 (bel_alloc1 W4 _) (own8_empty W4) hg (by simp)
  have T5 := Lib.hid (T4.out.below b5 T4.out.lt)
  have B5 := Lib.hid (B4.out.trans (b5.mono B4.out.size))
  have O5 := Lib.hid (show Own8 w5 W4.heap.size v5 ts by simpa using ho)
  have L5 : Hid (W4.heap.size ≤ w5.heap.size) := Lib.hid b5.size
  have L6 : Hid (w.heap.size < W4.heap.size) := Lib.hid T4.out.lt
  clear b5 ho hg T4 B4 A4 la
  go_wp2_with (at_builtin; refine app8w rfl (.tmp 11) (.tmp 12) rfl W4.heap.size v5 ts rfl O5.out p m cap bs rfl (hz.out.below B5.out) ?f4 L5.out ?_)
  case f4 => have := H32.out; have := hzl.out; omega
  intro v6 w6a ho hg
  have b6 : Below W4.heap.size w5 w6a := bel_grown8 (Below.refl _ _) O5.out hg L5.out
  have T5b := Lib.hid (show Blk w6a w.heap.size _ _ from (b6.block _ L6.out).trans T5.out)
  have B5b := Lib.hid (B5.out.trans (b6.mono (Nat.le_of_lt L6.out)))
  obtain ⟨p', c', rfl, hsrc, hc1, hc2, _⟩ := own8_src ho
  have S5 := Lib.hid hsrc
  have HLL : Hid ((ts ++ bs).length ≤ 200000000) := Lib.hid (by rw [List.length_append]; have := H32.out; have := hzl.out; omega)
  clear b6 ho hg hsrc T5 B5 O5 L5 L6 hc1 hc2
  obtain ⟨LL, hLL⟩ : ∃ L, (ts ++ bs).length = L := ⟨_, rfl⟩
  rw [hLL] at S5 HLL ⊢
  clear hLL
  go_wp2_with fail
  refine (rsum_any p' LL c' (ts ++ bs) w6a (Lib.hid (.inl S5.out)) (Lib.hid ?g1) (by have := HLL.out; omega) ds hds).mono ?_
  case g1 =>
    intro z hz
    rcases List.mem_append.1 hz with hz | hz
    · rw [← hts.out.eq] at hz; exact sha_rng _ z hz
    · exact hr.out z hz
  rintro e w6 ⟨rfl, hb6⟩
  have T6 := Lib.hid (T5b.out.below hb6 T5b.out.lt)
  have B6 := Lib.hid (B5b.out.trans (hb6.mono B5b.out.size))
  clear hb6 T5b B5b
  have hd32 : ds.length = 32 := by rw [← hds.out.eq]; exact sha_len _
  have q1 := size32' ds hd32
  have q3 := size32 ds hd32
  have q4 : w6.there w.heap.size 0 (bv ds).toArray.size := by have := T6.out.there; simp only [bv_len, List.length_replicate] at this; simp only [List.size_toArray, bv_len, hd32]; exact this
  have q5 := all_oneCell_toArray (bv_one ds)
  have HD := Lib.hid hd32
  clear hd32
  go_wp2_with (refine wpList_store_mid rfl 23 _ _ rfl w.heap.size 0 (bv ds).toArray rfl rfl q4 q3 q5 ?_)
  refine bodyPost_ret (v := .agg (bv ds).toArray) (results_cell1 (a := ⟨w.heap.size, 0, none⟩) rfl _ rfl (run_loadVar_mid _ w.heap.size 0 _ (bv ds) _ (T6.out.fill (by rw [bv_len, bv_len, List.length_replicate, HD.out])).range Tryz.underlying23 rfl q1)) rfl ⟨rfl, setCells_below (Nat.le_refl _) _ _ B6.out⟩
end Go.Proofs.YtjdkdhpippapmaaGreatDoor
namespace Go.Proofs.YtjdkdhpippapmaaGreatDoor
open Go.RowKit
set_option linter.unusedVariables false
set_option linter.unusedSimpArgs false

theorem low7_n {ds : List Int} {k : Nat} (hk : 0 < k) : (low7 ds).getD k 0 = ds.getD k 0 := by
  unfold low7
  rw [List.getD_eq_getElem?_getD, List.getElem?_set_ne (by omega), ← List.getD_eq_getElem?_getD]
set_option maxRecDepth 100000 in
set_option maxHeartbeats 2000000 in
theorem rhash_any (s : ByteArray) (p : Option Addr) (m cap : Nat) (bs : List Int) (w : World) (hz : Hid (SrcW w p m cap bs)) (hr : Hid (∀ z ∈ bs, 0 ≤ z ∧ z ≤ 255)) (hs : s.size ≤ 100000000) (hn : m ≤ 100000000) (ts ds : List Int) (hts : Hid (IsSha (strL s) ts)) (hds : Hid (IsSha (ts ++ bs) ds)) :
    Calls Tryz.prog 89 #[.string s, .slice p m cap] w fun e w' => e = .returned (.int .i64 (hashZ ds)) ∧ Below w.heap.size w w' := by
  go_enter Tryz.func89, Tryz.ntmps89
  go_wp2_with fail
  refine (rtagged_any s p m cap bs w hz hr hs hn ts ds hts hds).mono ?_; rintro e w1 ⟨rfl, hb1⟩
  have B1 := Lib.hid hb1
  clear hb1
  have hd32 : ds.length = 32 := by rw [← hds.out.eq]; exact sha_len _
  have hdr : ∀ z ∈ ds, 0 ≤ z ∧ z ≤ 255 := by rw [← hds.out.eq]; exact sha_rng _
  have q3 := size32 ds hd32
  have q4 : (w1.alloc (.cells #[.int .u8 0, .int .u8 0, .int .u8 0, .int .u8 0, .int .u8 0, .int .u8 0, .int .u8 0, .int .u8 0, .int .u8 0, .int .u8 0, .int .u8 0, .int .u8 0, .int .u8 0, .int .u8 0, .int .u8 0, .int .u8 0, .int .u8 0, .int .u8 0, .int .u8 0, .int .u8 0, .int .u8 0, .int .u8 0, .int .u8 0, .int .u8 0, .int .u8 0, .int .u8 0, .int .u8 0, .int .u8 0, .int .u8 0, .int .u8 0, .int .u8 0, .int .u8 0] 23)).there w1.heap.size 0 (bv ds).toArray.size := by have := (zeros32 w1).there; simp only [bv_len, List.length_replicate] at this; simp only [List.size_toArray, bv_len, hd32]; exact this
  have q5 := all_oneCell_toArray (bv_one ds)
  go_upto_region 2 with (refine wpList_store_mid rfl 23 _ _ rfl w1.heap.size 0 (bv ds).toArray rfl rfl q4 q3 q5 ?_)
  simp only [Act.put]
  generalize hW4 : World.setCells _ _ _ _ = W4
  have A4 := Lib.hid (show Blk W4 w1.heap.size (bv ds).toArray 23 by rw [← hW4]; exact (zeros32 w1).fill (by rw [bv_len, bv_len, hd32, List.length_replicate]))
  have B4 := Lib.hid (show Below w.heap.size w W4 by rw [← hW4]; exact setCells_below B1.out.size _ _ (B1.out.alloc B1.out.size _))
  clear hW4 q3 q4 q5 B1
  obtain ⟨ab, hab⟩ : ∃ ab, w1.heap.size = ab := ⟨_, rfl⟩
  rw [hab] at A4 ⊢
  clear hab
  obtain ⟨d0, hd0⟩ : ∃ y, ds.getD 0 0 = y := ⟨_, rfl⟩
  have e0 := A4.out.cell 0
  rw [bv_get ds 0 (by omega), hd0] at e0
  have r0 := getD_rng hdr 0
  rw [hd0] at r0
  have HY0 := Lib.hid (show (low7 ds).getD 0 0 = d0 % 128 by rw [low7_0 hd32, hd0])
  clear hd0
  obtain ⟨y1, hy1'⟩ : ∃ y, ds.getD 1 0 = y := ⟨_, rfl⟩
  have e1 := A4.out.cell 1
  rw [bv_get ds 1 (by omega), hy1'] at e1
  have r1 := getD_rng hdr 1
  rw [hy1'] at r1
  have hy1 := Lib.hid (show (low7 ds).getD 1 0 = y1 by rw [low7_n (by omega)]; exact hy1')
  clear hy1'
  obtain ⟨y2, hy2'⟩ : ∃ y, ds.getD 2 0 = y := ⟨_, rfl⟩
  have e2 := A4.out.cell 2
  rw [bv_get ds 2 (by omega), hy2'] at e2
  have r2 := getD_rng hdr 2
  rw [hy2'] at r2
  have hy2 := Lib.hid (show (low7 ds).getD 2 0 = y2 by rw [low7_n (by omega)]; exact hy2')
  clear hy2'
  obtain ⟨y3, hy3'⟩ : ∃ y, ds.getD 3 0 = y := ⟨_, rfl⟩
  have e3 := A4.out.cell 3
  rw [bv_get ds 3 (by omega), hy3'] at e3
  have r3 := getD_rng hdr 3
  rw [hy3'] at r3
  have hy3 := Lib.hid (show (low7 ds).getD 3 0 = y3 by rw [low7_n (by omega)]; exact hy3')
  clear hy3'
  obtain ⟨y4, hy4'⟩ : ∃ y, ds.getD 4 0 = y := ⟨_, rfl⟩
  have e4 := A4.out.cell 4
  rw [bv_get ds 4 (by omega), hy4'] at e4
  have r4 := getD_rng hdr 4
  rw [hy4'] at r4
  have hy4 := Lib.hid (show (low7 ds).getD 4 0 = y4 by rw [low7_n (by omega)]; exact hy4')
  clear hy4'
  obtain ⟨y5, hy5'⟩ : ∃ y, ds.getD 5 0 = y := ⟨_, rfl⟩
  have e5 := A4.out.cell 5
  rw [bv_get ds 5 (by omega), hy5'] at e5
  have r5 := getD_rng hdr 5
  rw [hy5'] at r5
  have hy5 := Lib.hid (show (low7 ds).getD 5 0 = y5 by rw [low7_n (by omega)]; exact hy5')
  clear hy5'
  obtain ⟨y6, hy6'⟩ : ∃ y, ds.getD 6 0 = y := ⟨_, rfl⟩
  have e6 := A4.out.cell 6
  rw [bv_get ds 6 (by omega), hy6'] at e6
  have r6 := getD_rng hdr 6
  rw [hy6'] at r6
  have hy6 := Lib.hid (show (low7 ds).getD 6 0 = y6 by rw [low7_n (by omega)]; exact hy6')
  clear hy6'
  obtain ⟨y7, hy7'⟩ : ∃ y, ds.getD 7 0 = y := ⟨_, rfl⟩
  have e7 := A4.out.cell 7
  rw [bv_get ds 7 (by omega), hy7'] at e7
  have r7 := getD_rng hdr 7
  rw [hy7'] at r7
  have hy7 := Lib.hid (show (low7 ds).getD 7 0 = y7 by rw [low7_n (by omega)]; exact hy7')
  clear hy7'
  have HD : Hid (hashZ ds = hacc (low7 ds) 8 % 1073741789) := Lib.hid rfl
  generalize low7 ds = ys at *
  clear hd32 hdr
  go_wp2_with fail
  go_loop [6, 7] (fun x i => ∃ (k : Nat) (n : Int), 1 ≤ k ∧ k ≤ 8 ∧ i = .int .i64 k ∧ x = .int .i64 n ∧ 0 ≤ n ∧ n = hacc ys k ∧ Hid (n < bndL.getD k 0)) (fun _ i => 8 - (intOf i).toNat)
  case atStart => exact ⟨1, d0 % 128, by omega, by omega, rfl, rfl, by omega, by have h := HY0.out; show _ = hacc ys 0 * 256 + ys.getD 0 0; rw [h]; show _ = (0 : Int) * 256 + _; omega, Lib.hid (by rw [show bndL.getD 1 0 = 128 from rfl]; omega)⟩
  case round =>
    obtain ⟨k, n, hk1, hk8, rfl, rfl, n0, hn, hbd⟩ := hrel
    by_cases hlt : k < 8
    · rcases (by omega : k = 1 ∨ k = 2 ∨ k = 3 ∨ k = 4 ∨ k = 5 ∨ k = 6 ∨ k = 7) with rfl | rfl | rfl | rfl | rfl | rfl | rfl
      · have hb := hbd.out
        rw [show bndL.getD 1 0 = 128 from rfl] at hb
        have HN := Lib.hid hn
        have HR := Lib.hid r1
        clear hn
        go_wp2_with fail
        go_round
        case rel => exact ⟨1 + 1, n * 256 + y1, by omega, by omega, rfl, rfl, by have := HR.out; omega, by rw [HN.out]; exact hacc_succ hy1.out, Lib.hid (by rw [show bndL.getD (1 + 1) 0 = 32768 from rfl]; have := HR.out; omega)⟩
        case measure => simp [intOf]
      · have hb := hbd.out
        rw [show bndL.getD 2 0 = 32768 from rfl] at hb
        have HN := Lib.hid hn
        have HR := Lib.hid r2
        clear hn
        go_wp2_with fail
        go_round
        case rel => exact ⟨2 + 1, n * 256 + y2, by omega, by omega, rfl, rfl, by have := HR.out; omega, by rw [HN.out]; exact hacc_succ hy2.out, Lib.hid (by rw [show bndL.getD (2 + 1) 0 = 8388608 from rfl]; have := HR.out; omega)⟩
        case measure => simp [intOf]
      · have hb := hbd.out
        rw [show bndL.getD 3 0 = 8388608 from rfl] at hb
        have HN := Lib.hid hn
        have HR := Lib.hid r3
        clear hn
        go_wp2_with fail
        go_round
        case rel => exact ⟨3 + 1, n * 256 + y3, by omega, by omega, rfl, rfl, by have := HR.out; omega, by rw [HN.out]; exact hacc_succ hy3.out, Lib.hid (by rw [show bndL.getD (3 + 1) 0 = 2147483648 from rfl]; have := HR.out; omega)⟩
        case measure => simp [intOf]
      · have hb := hbd.out
        rw [show bndL.getD 4 0 = 2147483648 from rfl] at hb
        have HN := Lib.hid hn
        have HR := Lib.hid r4
        clear hn
        go_wp2_with fail
        go_round
        case rel => exact ⟨4 + 1, n * 256 + y4, by omega, by omega, rfl, rfl, by have := HR.out; omega, by rw [HN.out]; exact hacc_succ hy4.out, Lib.hid (by rw [show bndL.getD (4 + 1) 0 = 549755813888 from rfl]; have := HR.out; omega)⟩
        case measure => simp [intOf]
      · have hb := hbd.out
        rw [show bndL.getD 5 0 = 549755813888 from rfl] at hb
        have HN := Lib.hid hn
        have HR := Lib.hid r5
        clear hn
        go_wp2_with fail
        go_round
        case rel => exact ⟨5 + 1, n * 256 + y5, by omega, by omega, rfl, rfl, by have := HR.out; omega, by rw [HN.out]; exact hacc_succ hy5.out, Lib.hid (by rw [show bndL.getD (5 + 1) 0 = 140737488355328 from rfl]; have := HR.out; omega)⟩
        case measure => simp [intOf]
      · have hb := hbd.out
        rw [show bndL.getD 6 0 = 140737488355328 from rfl] at hb
        have HN := Lib.hid hn
        have HR := Lib.hid r6
        clear hn
        go_wp2_with fail
        go_round
        case rel => exact ⟨6 + 1, n * 256 + y6, by omega, by omega, rfl, rfl, by have := HR.out; omega, by rw [HN.out]; exact hacc_succ hy6.out, Lib.hid (by rw [show bndL.getD (6 + 1) 0 = 36028797018963968 from rfl]; have := HR.out; omega)⟩
        case measure => simp [intOf]
      · have hb := hbd.out
        rw [show bndL.getD 7 0 = 36028797018963968 from rfl] at hb
        have HN := Lib.hid hn
        have HR := Lib.hid r7
        clear hn
        go_wp2_with fail
        go_round
        case rel => exact ⟨7 + 1, n * 256 + y7, by omega, by omega, rfl, rfl, by have := HR.out; omega, by rw [HN.out]; exact hacc_succ hy7.out, Lib.hid (by rw [show bndL.getD (7 + 1) 0 = 9223372036854775808 from rfl]; have := HR.out; omega)⟩
        case measure => simp [intOf]
    · obtain rfl : k = 8 := by omega
      have HN := Lib.hid hn
      have hb := hbd.out
      rw [show bndL.getD 8 0 = 9223372036854775808 from rfl] at hb
      clear hn
      go_wp2_with fail
      go_ret
      exact ⟨ret_int (by rw [HD.out, ← HN.out]), B4.out⟩
end Go.Proofs.YtjdkdhpippapmaaGreatDoor
namespace Go.Proofs.YtjdkdhpippapmaaGreatDoor
open Go.RowKit
set_option linter.unusedVariables false
set_option linter.unusedSimpArgs false

theorem one_own (w : World) (x : Int) : Own8 (w.alloc (.cells #[.int .u8 x] 5)) w.heap.size (.slice (some ⟨w.heap.size, 0, none⟩) 1 1) [x] :=
  ⟨rfl, .inr ⟨w.heap.size, 1, #[.int .u8 x], rfl, Nat.le_refl _, heap_alloc_new w _, Nat.le_refl _, by unfold maxLen; omega, rfl, rfl⟩⟩
set_option maxRecDepth 100000 in
set_option maxHeartbeats 1000000 in
theorem rnumeral_any (u : Nat) : ∀ (w : World), u < 9223372036854775808 → Calls Tryz.prog 121 #[.int .u64 u] w fun e w' => ∃ v', e = .returned v' ∧ Own8 w' w.heap.size v' (numL u) ∧ Below w.heap.size w w' := by
  induction u using Nat.strongRecOn with
  | _ u ih =>
    intro w hu
    by_cases h : u < 128
    · have O1 := Lib.hid (one_own w (u : Int))
      go_enter Tryz.func121, Tryz.ntmps121
      go_wp2_with fail
      go_ret
      exact ⟨_, rfl, by rw [numL_lt h]; exact O1.out, bel_alloc1 w _⟩
    · have ih' := Lib.hid (ih (u / 128) (by omega))
      have hlen := numL_len u 9 (by simpa using hu) (by omega)
      have hq := numL_ge h
      have HQ := Lib.hid hq
      have hq2 : (numL (u / 128)).length ≤ 9 := by rw [hq] at hlen; simp at hlen; omega
      clear hq ih hlen
      have O1 := Lib.hid (one_own w ((u : Int) % 128 + 128))
      go_enter Tryz.func121, Tryz.ntmps121
      go_wp2_with (first
        | (go_at_call 121; refine (ih'.out _ (by omega)).mono ?_; rintro e u1 ⟨v1, rfl, o1, b1⟩; obtain ⟨p1, c1, rfl, s1, hc1, hm1, hp1⟩ := own8_src o1; have S1 := Lib.hid s1; have B1 := Lib.hid b1; have O2 := Lib.hid (own8_below O1.out b1); clear s1 o1 b1 hp1)
        | (at_builtin; refine app8 rfl (.tmp 12) (.tmp 15) rfl w.heap.size (.slice (some ⟨w.heap.size, 0, none⟩) 1 1) [(u : Int) % 128 + 128] rfl O2.out p1 _ c1 (numL (u / 128)) rfl S1.out (by simp; omega) (by have := B1.out.size; simp at this; omega) ?_; intro v2 u2 o2 g2; have O3 := Lib.hid o2; have K3 := Lib.hid (bel_grown8 (bel_trans (bel_alloc1 w _) B1.out) O2.out g2 (by have := B1.out.size; simp at this; omega)); clear o2 g2))
      go_ret
      refine ⟨v2, rfl, ?_, K3.out⟩
      rw [HQ.out, show (((u % 128 + 128 : Nat)) : Int) = (u : Int) % 128 + 128 by omega]
      exact O3.out
set_option maxHeartbeats 400000 in
theorem runsigned_pos (n : Nat) (w : World) (hn : n < 4611686018427387904) : Calls Tryz.prog 122 #[.int .i64 n] w fun e w' => e = .returned (.int .u64 ((2 * n : Nat) : Int)) ∧ w = w' := by
  go_enter Tryz.func122, Tryz.ntmps122
  go_wp2
  go_ret
  have e2 : (2 : Int) * (n : Int) = ((2 * n : Nat) : Int) := by omega
  exact ⟨congrArg (fun z => Ending.returned (Value.int IntKind.u64 z)) e2, rfl⟩
theorem rformed_atom (a : Atom) (w : World) : Calls Tryz.prog 119 #[.agg #[.int .i64 a.kind, .int .i64 a.num, .string a.str, .slice none 0 0]] w fun e w' => e = .returned (.bool true) ∧ Below w.heap.size w w' := by
  cases a with
  | int n =>
    dsimp only [Atom.kind, Atom.num, Atom.str]
    go_enter Tryz.func119, Tryz.ntmps119
    go_wp2_with fail
    go_ret
    exact ⟨rfl, bel_alloc1 w _⟩
  | text s =>
    dsimp only [Atom.kind, Atom.num, Atom.str]
    go_enter Tryz.func119, Tryz.ntmps119
    go_wp2_with fail
    go_ret
    exact ⟨rfl, bel_alloc1 w _⟩
theorem rdepth_atom (a : Atom) (w : World) : Calls Tryz.prog 120 #[.agg #[.int .i64 a.kind, .int .i64 a.num, .string a.str, .slice none 0 0]] w fun e w' => e = .returned (.int .i64 0) ∧ Below w.heap.size w w' := by
  cases a with
  | int n =>
    dsimp only [Atom.kind, Atom.num, Atom.str]
    go_enter Tryz.func120, Tryz.ntmps120
    go_wp2_with fail
    go_ret
    exact ⟨rfl, bel_alloc1 w _⟩
  | text s =>
    dsimp only [Atom.kind, Atom.num, Atom.str]
    go_enter Tryz.func120, Tryz.ntmps120
    go_wp2_with fail
    go_ret
    exact ⟨rfl, bel_alloc1 w _⟩
set_option maxRecDepth 100000 in
set_option maxHeartbeats 2000000 in
theorem rformed_list (l : List Atom) (b o n cap : Nat) (w : World) (hn : Hid (n = l.length)) (hm : n ≤ 1000000) (hb : b < w.heap.size) (hl : Hid (AtomsAt w b o l)) :
    Calls Tryz.prog 119 #[.agg #[.int .i64 3, .int .i64 0, .string ⟨#[]⟩, .slice (some ⟨b, o, none⟩) n cap]] w fun e w' => e = .returned (.bool true) ∧ Below w.heap.size w w' := by
  go_enter Tryz.func119, Tryz.ntmps119
  go_wp2_with fail
  go_loopw [3] (fun i wr => ∃ k : Nat, k ≤ n ∧ i = .int .i64 k ∧ Hid (Blk wr w.heap.size #[.int .i64 3, .int .i64 0, .string ⟨#[]⟩, .slice (some ⟨b, o, none⟩) n cap] 53) ∧ Hid (Below w.heap.size w wr)) (fun i _ => n - (intOf i).toNat) 
  case atStart => exact ⟨0, by omega, rfl, Lib.hid (Blk.new w _ _), Lib.hid (bel_alloc1 w _)⟩
  case round =>
    obtain ⟨k, hk, rfl, HV, HB⟩ := hrel
    have f3 := HV.out.cell 3
    by_cases hlt : k < n
    · have hbr : b < wr.heap.size := Nat.lt_of_lt_of_le hb HB.out.size
      obtain ⟨c0, c1, c2, c3⟩ := hl.out.below HB.out hb k (by rw [← hn.out]; exact hlt)
      obtain ⟨at', hx⟩ : ∃ x, l.getD k (.int 0) = x := ⟨_, rfl⟩
      rw [hx] at c0 c1 c2
      clear hx
      go_wp2_with (go_at_call 119; refine (rformed_atom at' _).mono ?_; rintro e u1 ⟨rfl, hbw⟩)
      refine ⟨⟨k + 1, by omega, by simp, Lib.hid (HV.out.below hbw HV.out.lt), Lib.hid (bel_trans HB.out hbw)⟩, ?_⟩
      simp only [intOf]; omega
    · have f1 := HV.out.cell 1
      have f2 := HV.out.cell 2
      go_wp2_with fail
      go_ret
      exact ⟨rfl, HB.out⟩
set_option maxRecDepth 100000 in
set_option maxHeartbeats 2000000 in
theorem rdepth_list (l : List Atom) (b o n cap : Nat) (w : World) (hn : Hid (n = l.length)) (hm : n ≤ 1000000) (hb : b < w.heap.size) (hl : Hid (AtomsAt w b o l)) :
    Calls Tryz.prog 120 #[.agg #[.int .i64 3, .int .i64 0, .string ⟨#[]⟩, .slice (some ⟨b, o, none⟩) n cap]] w fun e w' => e = .returned (.int .i64 1) ∧ Below w.heap.size w w' := by
  go_enter Tryz.func120, Tryz.ntmps120
  go_wp2_with fail
  go_loopw [3, 4] (fun x i wr => ∃ k : Nat, k ≤ n ∧ i = .int .i64 k ∧ x = .int .i64 0 ∧ Hid (Blk wr w.heap.size #[.int .i64 3, .int .i64 0, .string ⟨#[]⟩, .slice (some ⟨b, o, none⟩) n cap] 53) ∧ Hid (Below w.heap.size w wr)) (fun _ i _ => n - (intOf i).toNat) 
  case atStart => exact ⟨0, by omega, rfl, rfl, Lib.hid (Blk.new w _ _), Lib.hid (bel_alloc1 w _)⟩
  case round =>
    obtain ⟨k, hk, rfl, rfl, HV, HB⟩ := hrel
    have f3 := HV.out.cell 3
    by_cases hlt : k < n
    · have hbr : b < wr.heap.size := Nat.lt_of_lt_of_le hb HB.out.size
      obtain ⟨c0, c1, c2, c3⟩ := hl.out.below HB.out hb k (by rw [← hn.out]; exact hlt)
      obtain ⟨at', hx⟩ : ∃ x, l.getD k (.int 0) = x := ⟨_, rfl⟩
      rw [hx] at c0 c1 c2
      clear hx
      go_wp2_with (go_at_call 120; refine (rdepth_atom at' _).mono ?_; rintro e u1 ⟨rfl, hbw⟩)
      refine ⟨⟨k + 1, by omega, by simp, rfl, Lib.hid (HV.out.below hbw HV.out.lt), Lib.hid (bel_trans HB.out hbw)⟩, ?_⟩
      simp only [intOf]; omega
    · go_wp2_with fail
      go_ret
      exact ⟨rfl, HB.out⟩
set_option maxRecDepth 100000 in
set_option maxHeartbeats 2000000 in
theorem rcheck_list (l : List Atom) (b o n cap : Nat) (w : World) (hn : Hid (n = l.length)) (hm : n ≤ 1000000) (hb : b < w.heap.size) (hl : Hid (AtomsAt w b o l)) :
    Calls Tryz.prog 93 #[.agg #[.int .i64 3, .int .i64 0, .string ⟨#[]⟩, .slice (some ⟨b, o, none⟩) n cap]] w fun e w' => e = .returned (.int .i64 0) ∧ Below w.heap.size w w' := by
  have HB0 := Lib.hid (bel_alloc1 w (.cells #[.int .i64 3, .int .i64 0, .string ⟨#[]⟩, .slice (some ⟨b, o, none⟩) n cap] 53))
  have V0 := Lib.hid (Blk.new w #[.int .i64 3, .int .i64 0, .string ⟨#[]⟩, .slice (some ⟨b, o, none⟩) n cap] 53)
  go_enter Tryz.func93, Tryz.ntmps93
  go_wp2_with (first
    | (go_at_call 119; refine (rformed_list l b o n cap _ hn hm (Nat.lt_of_lt_of_le hb HB0.out.size) (Lib.hid (hl.out.below HB0.out hb))).mono ?_; rintro e u1 ⟨rfl, hb1⟩; have V1 := V0.out.below hb1 V0.out.lt; have f0 := V1.cell 0; have f1 := V1.cell 1; have f2 := V1.cell 2; have f3 := V1.cell 3; have HB1 := Lib.hid (bel_trans HB0.out hb1))
    | (go_at_call 120; refine (rdepth_list l b o n cap _ hn hm (Nat.lt_of_lt_of_le hb HB1.out.size) (Lib.hid (hl.out.below HB1.out hb))).mono ?_; rintro e u2 ⟨rfl, hb2⟩))
  go_ret
  exact ⟨rfl, bel_trans HB1.out hb2⟩
set_option maxRecDepth 100000 in
set_option maxHeartbeats 2000000 in
theorem rencode_int (n : Nat) (w : World) (hn : n < 4611686018427387904) :
    Calls Tryz.prog 94 #[.agg #[.int .i64 1, .int .i64 n, .string ⟨#[]⟩, .slice none 0 0]] w fun e w' => ∃ v', e = .returned v' ∧ Own8 w' w.heap.size v' (1 :: numL (2 * n)) ∧ Below w.heap.size w w' := by
  obtain ⟨W1, hW1⟩ : ∃ W1, W1 = w.alloc (.cells #[.int .i64 1, .int .i64 n, .string ⟨#[]⟩, .slice none 0 0] 53) := ⟨_, rfl⟩
  have O1 := Lib.hid (one_own W1 1)
  have BW := Lib.hid (show Below w.heap.size w (W1.alloc (.cells #[.int .u8 1] 5)) by rw [hW1]; exact (bel_alloc1 w _).alloc (by simp) _)
  have hwW : W1.heap.size = w.heap.size + 1 := by rw [hW1]; simp
  have hlen := numL_len (2 * n) 9 (by simp; omega) (by omega)
  go_enter Tryz.func94, Tryz.ntmps94
  go_wp2_with (first
    | (go_at_call 122; refine (runsigned_pos n _ hn).mono ?_; rintro e w' ⟨rfl, rfl⟩)
    | (go_at_call 121; rw [← hW1]; refine (rnumeral_any (2 * n) _ (by omega)).mono ?_; rintro e u1 ⟨v1, rfl, o1, b1⟩; obtain ⟨p1, c1, rfl, s1, hc1, hm1, hp1⟩ := own8_src o1; have S1 := Lib.hid s1; have B1 := Lib.hid (bel_trans BW.out b1); have O2 := Lib.hid (own8_below O1.out b1); have L1 : W1.heap.size ≤ u1.heap.size := (by have := b1.size; simp at this; omega); rw [hwW] at O2 L1; clear s1 o1 b1 hp1)
    | (at_builtin; refine app8 rfl (.tmp 9) (.tmp 13) rfl (w.heap.size + 1) (.slice (some ⟨w.heap.size + 1, 0, none⟩) 1 1) [1] rfl O2.out p1 _ c1 (numL (2 * n)) rfl S1.out (by simp; omega) L1 ?_; intro v2 u2 o2 g2; have O3 := Lib.hid (own8_mono o2 (show w.heap.size ≤ w.heap.size + 1 by omega)); have K3 := Lib.hid (bel_grown8 B1.out (own8_mono O2.out (show w.heap.size ≤ w.heap.size + 1 by omega)) g2 (by omega)); clear o2 g2))
  go_ret
  exact ⟨v2, rfl, O3.out, K3.out⟩
set_option maxRecDepth 100000 in
set_option maxHeartbeats 4000000 in
theorem rencode_text (s : ByteArray) (w : World) (hs : s.size ≤ 1000000000) :
    Calls Tryz.prog 94 #[.agg #[.int .i64 2, .int .i64 0, .string s, .slice none 0 0]] w fun e w' => ∃ v', e = .returned v' ∧ Own8 w' w.heap.size v' (2 :: (numL s.size ++ strL s)) ∧ Below w.heap.size w w' := by
  go_enter Tryz.func94, Tryz.ntmps94
  go_wp2_with fail
  refine wp_region_any (by kernel_rfl) ?_
  change wpAny _ _ _ _ _ _ _ (World.drew _)
  generalize hWD : World.drew _ = W
  have BX := Lib.hid (show Blk W w.heap.size #[.int .i64 2, .int .i64 0, .string s, .slice none 0 0] 53 by rw [← hWD]; exact Blk.new w _ _)
  have EW := Lib.hid (show Below w.heap.size w W by rw [← hWD]; exact (bel_alloc1 w _).drew)
  clear hWD
  have hCD : ∀ u, Ext W u → Ext W u := fun u hu => hu
  have HW : Hid (IntKind.u64.wrap (s.size : Int) = (s.size : Int)) := Lib.hid (by rw [IntKind.wrap_u64]; omega)
  have hwW : w.heap.size ≤ W.heap.size := EW.out.size
  have hlen := numL_len s.size 9 (by simp; omega) (by omega)
  refine region_U (D := Ext W) (Ext W) [9, 10] (Ext.refl W) ?_
  refine anyU_takeD (i := 1) (v := .pointer (some ⟨w.heap.size, 2, none⟩)) 18 rfl rfl (by kernel_rfl) (by kernel_rfl) (by kernel_rfl) (fun _ _ _ h => h) (by kernel_rfl) (Ext.stable _) hCD (yieldsU_val rfl (fun u hu => by go_simp)) ?_
  refine anyU_takeD (i := 2) (v := .string s) 19 rfl rfl (by kernel_rfl) (by kernel_rfl) (by kernel_rfl) (fun _ _ _ h => h) (by kernel_rfl) (Ext.stable _) hCD (yieldsU_val rfl (fun u hu => by have c := (BX.out.below hu BX.out.lt).cell 2; go_simp)) ?_
  refine anyU_takeD (i := 3) (v := .int .i64 (s.size : Int)) 20 rfl rfl (by kernel_rfl) (by kernel_rfl) (by kernel_rfl) (fun _ _ _ h => h) (by kernel_rfl) (Ext.stable _) hCD (yieldsU_val rfl (fun u hu => by go_simp)) ?_
  refine anyU_takeD (i := 4) (v := .int .u64 (s.size : Int)) 21 rfl rfl (by kernel_rfl) (by kernel_rfl) (by kernel_rfl) (fun _ _ _ h => h) (by kernel_rfl) (Ext.stable _) hCD (yieldsU_val rfl (fun u hu => by go_simp; rw [HW.out])) ?_
  refine anyU_takeD (i := 7) (v := .pointer (some ⟨w.heap.size, 2, none⟩)) 24 rfl rfl (by kernel_rfl) (by kernel_rfl) (by kernel_rfl) (fun _ _ _ h => h) (by kernel_rfl) (Ext.stable _) hCD (yieldsU_val rfl (fun u hu => by go_simp)) ?_
  refine anyU_takeD (i := 8) (v := .string s) 25 rfl rfl (by kernel_rfl) (by kernel_rfl) (by kernel_rfl) (fun _ _ _ h => h) (by kernel_rfl) (Ext.stable _) hCD (yieldsU_val rfl (fun u hu => by have c := (BX.out.below hu BX.out.lt).cell 2; go_simp)) ?_
  simp only [Act.put, List.setIfInBounds_toArray, List.set_cons_succ, List.set_cons_zero]
  refine anyU_two 0 5 4 _ _ rfl rfl (by kernel_rfl) (by kernel_rfl) (by kernel_rfl) ?_ ?_
  · intro u1 hu
    go_wp2_with fail
    change ∃ C' : World → Prop, _ ∧ _ ∧ _ ∧ anyU _ _ _ _ _ _ 4 _ _ _
    have O1 := Lib.hid (own8_mono (one_own u1 2) hu.size)
    have E1 := Lib.hid (Ext.trans hu (bel_alloc1 u1 (.cells #[.int .u8 2] 5)))
    generalize World.alloc u1 _ = u2 at O1 E1 ⊢
    generalize u1.heap.size = bb at O1 ⊢
    clear hu
    refine anchorF (fun z => Ext W z ∧ Own8 z W.heap.size (.slice (some ⟨bb, 0, none⟩) 1 1) [2]) (fun z hz => hz.1) ((Ext.stable W).and (fun z z' h k => own8_below h k)) ⟨E1.out, O1.out⟩ ?_
    (try simp only [Act.put])
    refine anyU_one 5 3 _ rfl rfl (by kernel_rfl) ?_
    intro u3 hu3
    go_wp2_with fail
    refine (rnumeral_any s.size u3 (by omega)).mono ?_
    rintro e u4 ⟨v1, rfl, o1, b1⟩
    obtain ⟨p1, c1, rfl, s1, hc1, hm1, hp1⟩ := own8_src o1
    have X4 := Lib.hid (Ext.trans hu3.1 b1)
    have O4 := Lib.hid (own8_below hu3.2 b1)
    have S4 := Lib.hid s1
    clear o1 b1 s1 hp1 hu3
    go_wp2_with fail
    change ∃ C' : World → Prop, _ ∧ _ ∧ _ ∧ anyU _ _ _ _ _ _ 3 _ _ _
    refine anchorF (fun z => Ext W z ∧ Own8 z W.heap.size (.slice (some ⟨bb, 0, none⟩) 1 1) [2] ∧ SrcV z p1 (numL s.size).length c1 (numL s.size)) (fun z hz => hz.1) ((Ext.stable W).and (Stable.and (fun z z' h k => own8_below h k) (fun z z' h k => h.below k))) ⟨X4.out, O4.out, S4.out⟩ ?_
    (try simp only [Act.put])
    refine anyU_one 6 2 _ rfl rfl (by kernel_rfl) ?_
    intro u3 hu3
    obtain ⟨x3, o3, s3⟩ := hu3
    refine app8 rfl (.tmp 17) (.tmp 22) rfl W.heap.size (.slice (some ⟨bb, 0, none⟩) 1 1) [2] rfl o3 p1 _ c1 (numL s.size) rfl s3 (by simp; omega) x3.size ?_
    intro v4 u4 o4 g4
    have O4 := Lib.hid o4
    have K4 := Lib.hid (show Ext W u4 from bel_grown8 x3 o3 g4 x3.size)
    clear o4 g4 x3 o3 s3
    change ∃ C' : World → Prop, _ ∧ _ ∧ _ ∧ anyU _ _ _ _ _ _ 2 _ _ _
    refine anchorF (fun z => Ext W z ∧ Own8 z W.heap.size v4 ([2] ++ numL s.size)) (fun z hz => hz.1) ((Ext.stable W).and (fun z z' h k => own8_below h k)) ⟨K4.out, O4.out⟩ ?_
    (try simp only [Act.put])
    refine anyU_tail 9 [10] rfl rfl (by decide) (by kernel_rfl) ?_
    intro u5 hu5
    simp only [Act.put, List.filterMap_cons, List.filterMap_nil, List.getElem?_cons_succ, List.getElem?_cons_zero]
    obtain ⟨x5, o5⟩ := hu5
    refine appS8 rfl (.tmp 23) (.tmp 25) rfl W.heap.size v4 ([2] ++ numL s.size) rfl o5 s rfl (by simp; omega) x5.size ?_
    intro v6 u6 o6 g6
    have O6 := Lib.hid (own8_mono o6 hwW)
    have K6 := Lib.hid (EW.out.trans ((bel_grown8 x5 o5 g6 x5.size).mono hwW))
    clear o6 g6 x5 o5
    go_wp2_with fail
    go_ret
    refine ⟨v6, rfl, ?_, K6.out⟩
    have h := O6.out
    rw [List.append_assoc] at h
    exact h
  · intro u1 hu
    go_wp2_with fail
    refine (rnumeral_any s.size u1 (by omega)).mono ?_
    rintro e u4 ⟨v1, rfl, o1, b1⟩
    obtain ⟨p1, c1, rfl, s1, hc1, hm1, hp1⟩ := own8_src o1
    have X4 := Lib.hid (Ext.trans hu b1)
    have S4 := Lib.hid s1
    clear o1 b1 s1 hp1 hu
    go_wp2_with fail
    change ∃ C' : World → Prop, _ ∧ _ ∧ _ ∧ anyU _ _ _ _ _ _ 4 _ _ _
    refine anchorF (fun z => Ext W z ∧ SrcV z p1 (numL s.size).length c1 (numL s.size)) (fun z hz => hz.1) ((Ext.stable W).and (fun z z' h k => h.below k)) ⟨X4.out, S4.out⟩ ?_
    (try simp only [Act.put])
    refine anyU_one 0 3 _ rfl rfl (by kernel_rfl) ?_
    intro u5 hu5
    go_wp2_with fail
    change ∃ C' : World → Prop, _ ∧ _ ∧ _ ∧ anyU _ _ _ _ _ _ 3 _ _ _
    have O1 := Lib.hid (own8_mono (one_own u5 2) hu5.1.size)
    have E1 := Lib.hid (Ext.trans hu5.1 (bel_alloc1 u5 (.cells #[.int .u8 2] 5)))
    have S5 := Lib.hid (hu5.2.below (bel_alloc1 u5 (.cells #[.int .u8 2] 5)))
    generalize World.alloc u5 _ = u2 at O1 E1 S5 ⊢
    generalize u5.heap.size = bb at O1 ⊢
    clear hu5
    refine anchorF (fun z => Ext W z ∧ Own8 z W.heap.size (.slice (some ⟨bb, 0, none⟩) 1 1) [2] ∧ SrcV z p1 (numL s.size).length c1 (numL s.size)) (fun z hz => hz.1) ((Ext.stable W).and (Stable.and (fun z z' h k => own8_below h k) (fun z z' h k => h.below k))) ⟨E1.out, O1.out, S5.out⟩ ?_
    (try simp only [Act.put])
    refine anyU_one 6 2 _ rfl rfl (by kernel_rfl) ?_
    intro u3 hu3
    obtain ⟨x3, o3, s3⟩ := hu3
    refine app8 rfl (.tmp 17) (.tmp 22) rfl W.heap.size (.slice (some ⟨bb, 0, none⟩) 1 1) [2] rfl o3 p1 _ c1 (numL s.size) rfl s3 (by simp; omega) x3.size ?_
    intro v4 u4 o4 g4
    have O4 := Lib.hid o4
    have K4 := Lib.hid (show Ext W u4 from bel_grown8 x3 o3 g4 x3.size)
    clear o4 g4 x3 o3 s3
    change ∃ C' : World → Prop, _ ∧ _ ∧ _ ∧ anyU _ _ _ _ _ _ 2 _ _ _
    refine anchorF (fun z => Ext W z ∧ Own8 z W.heap.size v4 ([2] ++ numL s.size)) (fun z hz => hz.1) ((Ext.stable W).and (fun z z' h k => own8_below h k)) ⟨K4.out, O4.out⟩ ?_
    (try simp only [Act.put])
    refine anyU_tail 9 [10] rfl rfl (by decide) (by kernel_rfl) ?_
    intro u5 hu5
    simp only [Act.put, List.filterMap_cons, List.filterMap_nil, List.getElem?_cons_succ, List.getElem?_cons_zero]
    obtain ⟨x5, o5⟩ := hu5
    refine appS8 rfl (.tmp 23) (.tmp 25) rfl W.heap.size v4 ([2] ++ numL s.size) rfl o5 s rfl (by simp; omega) x5.size ?_
    intro v6 u6 o6 g6
    have O6 := Lib.hid (own8_mono o6 hwW)
    have K6 := Lib.hid (EW.out.trans ((bel_grown8 x5 o5 g6 x5.size).mono hwW))
    clear o6 g6 x5 o5
    go_wp2_with fail
    go_ret
    refine ⟨v6, rfl, ?_, K6.out⟩
    have h := O6.out
    rw [List.append_assoc] at h
    exact h
theorem rencode_atom (a : Atom) (ha : a.ok) (w : World) : Calls Tryz.prog 94 #[.agg #[.int .i64 a.kind, .int .i64 a.num, .string a.str, .slice none 0 0]] w fun e w' => ∃ v', e = .returned v' ∧ Own8 w' w.heap.size v' a.enc ∧ Below w.heap.size w w' := by
  cases a with
  | int n =>
    obtain ⟨h1, h2⟩ := ha
    obtain ⟨m, rfl⟩ := Int.eq_ofNat_of_zero_le h1
    simp only [Atom.enc, zig_nat]
    exact rencode_int m w (by omega)
  | text s =>
    have h := rencode_text (strB s) w (by rw [strB_size]; exact ha.1)
    rw [strL_strB ha.2, strB_size] at h
    exact h
set_option maxRecDepth 100000 in
set_option maxHeartbeats 2000000 in
theorem rencode_list (l : List Atom) (b o n cap : Nat) (w : World) (hn : Hid (n = l.length)) (hm : n ≤ 1000000) (hok : Hid (∀ a ∈ l, a.ok)) (hb : b < w.heap.size) (hl : Hid (AtomsAt w b o l)) (hx : Hid (60 + lenA l ≤ 2000000000)) :
    Calls Tryz.prog 94 #[.agg #[.int .i64 3, .int .i64 0, .string ⟨#[]⟩, .slice (some ⟨b, o, none⟩) n cap]] w fun e w' => ∃ v', e = .returned v' ∧ Own8 w' w.heap.size v' (encL l) ∧ Below w.heap.size w w' := by
  obtain ⟨W1, hW1⟩ : ∃ W1, W1 = w.alloc (.cells #[.int .i64 3, .int .i64 0, .string ⟨#[]⟩, .slice (some ⟨b, o, none⟩) n cap] 53) := ⟨_, rfl⟩
  have O1 := Lib.hid (one_own W1 3)
  have hwW : W1.heap.size = w.heap.size + 1 := by rw [hW1]; simp
  have BW := Lib.hid (show Below w.heap.size w (W1.alloc (.cells #[.int .u8 3] 5)) by rw [hW1]; exact (bel_alloc1 w _).alloc (by simp) _)
  have VW := Lib.hid (show Blk (W1.alloc (.cells #[.int .u8 3] 5)) w.heap.size #[.int .i64 3, .int .i64 0, .string ⟨#[]⟩, .slice (some ⟨b, o, none⟩) n cap] 53 by rw [hW1]; exact (Blk.new w _ _).alloc _)
  have hlen := numL_len n 9 (by simp; omega) (by omega)
  go_enter Tryz.func94, Tryz.ntmps94
  go_wp2_with (first
    | (go_at_call 121; rw [← hW1]; refine (rnumeral_any n _ (by omega)).mono ?_; rintro e u1 ⟨v1, rfl, o1, b1⟩; obtain ⟨p1, c1, rfl, s1, hc1, hm1, hp1⟩ := own8_src o1; have S1 := Lib.hid s1; have B1 := Lib.hid (bel_trans BW.out b1); have V1 := Lib.hid (VW.out.below b1 VW.out.lt); have O2 := Lib.hid (own8_below O1.out b1); have L1 : W1.heap.size ≤ u1.heap.size := (by have := b1.size; simp at this; omega); rw [hwW] at O2 L1; clear s1 o1 b1 hp1)
    | (at_builtin; refine app8 rfl (.tmp 27) (.tmp 32) rfl (w.heap.size + 1) (.slice (some ⟨w.heap.size + 1, 0, none⟩) 1 1) [3] rfl O2.out p1 _ c1 (numL n) rfl S1.out (by simp; omega) L1 ?_; intro v2 u2 o2 g2; have O3 := Lib.hid o2; have K3 := Lib.hid (bel_grown8 B1.out (own8_mono O2.out (show w.heap.size ≤ w.heap.size + 1 by omega)) g2 (by omega)); have V3 := Lib.hid ((g2.block w.heap.size V1.out.lt (by intro e; have := (World.ownsRow.lt O2.out) _ e.symm; omega)).trans V1.out); clear o2 g2))
  clear hW1 hwW
  go_loopw [3, 4] (fun x i wr => ∃ (k : Nat) (v3 : Value) (ys : List Int), k ≤ n ∧ v3 = x ∧ i = .int .i64 k ∧ Hid (Own8 wr (w.heap.size + 1) v3 ys) ∧ Hid (ys = 3 :: (numL n ++ ((l.take k).map Atom.enc).flatten)) ∧ Hid (ys.length ≤ 20 + lenA (l.take k)) ∧ Hid (Blk wr w.heap.size #[.int .i64 3, .int .i64 0, .string ⟨#[]⟩, .slice (some ⟨b, o, none⟩) n cap] 53) ∧ Hid (Below w.heap.size w wr)) (fun _ i _ => n - (intOf i).toNat)
  case atStart =>
    refine ⟨0, v2, _, by omega, rfl, rfl, O3, Lib.hid (by simp), Lib.hid ?_, V3, K3⟩
    simp; omega
  case round =>
    obtain ⟨k, v3, ys, hk, rfl, rfl, HO, HY, HL, HV, HB⟩ := hrel
    have f3 := HV.out.cell 3
    have hwr := HV.out.lt
    by_cases hlt : k < n
    · have hbr : b < wr.heap.size := Nat.lt_of_lt_of_le hb HB.out.size
      have hkl : k < l.length := by rw [← hn.out]; exact hlt
      obtain ⟨c0, c1, c2, c3⟩ := hl.out.below HB.out hb k hkl
      have hsz := lenA_take hkl
      have hat := hok.out _ (getD_mem' hkl)
      have hen := encs_take hkl
      have hel := enc_len hat
      obtain ⟨at', hx'⟩ : ∃ x, l.getD k (.int 0) = x := ⟨_, rfl⟩
      rw [hx'] at c0 c1 c2 hsz hat hen hel
      have HS := Lib.hid hsz; have HA := Lib.hid hat; have HE := Lib.hid hen; have HEL := Lib.hid hel
      clear hx' hsz hat hen hel
      go_wp2_with (first
        | (go_at_call 94; refine (rencode_atom at' HA.out _).mono ?_; rintro e u1 ⟨v4, rfl, o4, b4⟩; obtain ⟨p4, cp4, rfl, s4, hc4, hm4, hp4⟩ := own8_src o4; have S4 := Lib.hid s4; have O5 := Lib.hid (own8_below HO.out b4); have V5 := Lib.hid (HV.out.below b4 HV.out.lt); have B5 := Lib.hid (bel_trans HB.out b4); have l5 : w.heap.size + 1 ≤ u1.heap.size := (by have := b4.size; omega); clear o4 s4 b4 hp4)
        | (at_builtin; refine app8 rfl (.tmp 41) (.tmp 47) rfl (w.heap.size + 1) v3 ys rfl O5.out p4 _ cp4 at'.enc rfl S4.out (by have := hx.out; have := HL.out; have := HS.out; have := HEL.out; omega) l5 ?_; intro v6 u6 o6 g6; have O6 := Lib.hid o6; have K6 := Lib.hid (bel_grown8 B5.out (own8_mono O5.out (show w.heap.size ≤ w.heap.size + 1 by omega)) g6 (by omega)); have V6 := Lib.hid ((g6.block w.heap.size V5.out.lt (by intro e; have := (World.ownsRow.lt O5.out) _ e.symm; omega)).trans V5.out); clear o6 g6))
      refine ⟨⟨k + 1, v6, _, by omega, rfl, by simp, O6, Lib.hid ?_, Lib.hid ?_, V6, K6⟩, ?_⟩
      · rw [HY.out, HE.out]; simp only [List.append_assoc, List.cons_append]
      · have := HL.out; have := HS.out; have := HEL.out
        rw [List.length_append]; omega
      · simp only [intOf]; omega
    · obtain rfl : k = n := by omega
      go_wp2_with fail
      go_ret
      refine ⟨v3, rfl, ?_, HB.out⟩
      have h := own8_mono HO.out (show w.heap.size ≤ w.heap.size + 1 by omega)
      rw [HY.out, List.take_of_length_le (by have := hn.out; omega)] at h
      unfold encL
      rw [← hn.out]
      exact h
set_option maxRecDepth 100000 in
set_option maxHeartbeats 2000000 in
theorem rEncode_list (l : List Atom) (b o n cap : Nat) (w : World) (hn : Hid (n = l.length)) (hm : n ≤ 1000000) (hok : Hid (∀ a ∈ l, a.ok)) (hb : b < w.heap.size) (hl : Hid (AtomsAt w b o l)) (hx : Hid (60 + lenA l ≤ 2000000000)) :
    Calls Tryz.prog 60 #[.agg #[.int .i64 3, .int .i64 0, .string ⟨#[]⟩, .slice (some ⟨b, o, none⟩) n cap]] w fun e w' => ∃ v', e = .returned (.tuple #[v', .int .i64 0]) ∧ Own8 w' w.heap.size v' (encL l) ∧ Below w.heap.size w w' := by
  have HB0 := Lib.hid (bel_alloc1 w (.cells #[.int .i64 3, .int .i64 0, .string ⟨#[]⟩, .slice (some ⟨b, o, none⟩) n cap] 53))
  have V0 := Lib.hid (Blk.new w #[.int .i64 3, .int .i64 0, .string ⟨#[]⟩, .slice (some ⟨b, o, none⟩) n cap] 53)
  go_enter Tryz.func60, Tryz.ntmps60
  go_wp2_with (first
    | (go_at_call 93; refine (rcheck_list l b o n cap _ hn hm (Nat.lt_of_lt_of_le hb HB0.out.size) (Lib.hid (hl.out.below HB0.out hb))).mono ?_; rintro e u1 ⟨rfl, hb1⟩; have V1 := V0.out.below hb1 V0.out.lt; have f0 := V1.cell 0; have f1 := V1.cell 1; have f2 := V1.cell 2; have f3 := V1.cell 3; have HB1 := Lib.hid (bel_trans HB0.out hb1))
    | (go_at_call 94; refine (rencode_list l b o n cap _ hn hm hok (Nat.lt_of_lt_of_le hb HB1.out.size) (Lib.hid (hl.out.below HB1.out hb)) hx).mono ?_; rintro e u2 ⟨v2, rfl, o2, b2⟩; have O2 := Lib.hid (own8_mono o2 HB1.out.size); have B2 := Lib.hid (bel_trans HB1.out b2); clear o2 b2))
  go_ret2
  exact ⟨v2, rfl, O2.out, B2.out⟩
end Go.Proofs.YtjdkdhpippapmaaGreatDoor
namespace Go.Proofs.YtjdkdhpippapmaaGreatDoor
open Go.RowKit
set_option linter.unusedVariables false
set_option linter.unusedSimpArgs false

set_option maxRecDepth 100000 in
theorem rInt_any (n : Int) (w : World) : Calls Tryz.prog 87 #[.int .i64 n] w fun e w' => e = .returned (.agg #[.int .i64 1, .int .i64 n, .string ⟨#[]⟩, .slice none 0 0]) ∧ Below w.heap.size w w' := by
  go_enter Tryz.func87, Tryz.ntmps87
  go_wp2_with fail
  refine bodyPost_ret (v := .agg #[.int .i64 1, .int .i64 n, .string ⟨#[]⟩, .slice none 0 0]) (by simp [results, Tryz.results87, go_sem]) rfl ⟨rfl, ?_⟩
  repeat refine Below.setCell ?_ (by simp) _
  exact bel_alloc1 w _
set_option maxRecDepth 100000 in
theorem rText_any (s : ByteArray) (w : World) : Calls Tryz.prog 88 #[.string s] w fun e w' => e = .returned (.agg #[.int .i64 2, .int .i64 0, .string s, .slice none 0 0]) ∧ Below w.heap.size w w' := by
  go_enter Tryz.func88, Tryz.ntmps88
  go_wp2_with fail
  refine bodyPost_ret (v := .agg #[.int .i64 2, .int .i64 0, .string s, .slice none 0 0]) (by simp [results, Tryz.results88, go_sem]) rfl ⟨rfl, ?_⟩
  repeat refine Below.setCell ?_ (by simp) _
  exact bel_alloc1 w _
set_option maxRecDepth 100000 in
theorem rList_any (p : Option Addr) (m c : Nat) (w : World) : Calls Tryz.prog 86 #[.slice p m c] w fun e w' => e = .returned (.agg #[.int .i64 3, .int .i64 0, .string ⟨#[]⟩, .slice p m c]) ∧ Below w.heap.size w w' := by
  go_enter Tryz.func86, Tryz.ntmps86
  go_wp2_with fail
  refine bodyPost_ret (v := .agg #[.int .i64 3, .int .i64 0, .string ⟨#[]⟩, .slice p m c]) (by simp [results, Tryz.results86, go_sem]) rfl ⟨rfl, ?_⟩
  repeat refine Below.setCell ?_ (by simp) _
  exact bel_alloc1 w _
theorem rhash_is (s : ByteArray) (t : List Int) (l : List Atom) (B : Nat) (v : Value) (w : World) (hst : strL s = t) (hv : Hid (Own8 w B v (encL l))) (hok : Hid (∀ a ∈ l, a.ok)) (hl : l.length ≤ 1000) (hx : lenA l ≤ 50000000) (hs : s.size ≤ 100000000) (h : Int) (hh : Hid (IsHash t (encL l) h)) :
    Calls Tryz.prog 89 #[.string s, v] w fun e w' => e = .returned (.int .i64 h) ∧ Below w.heap.size w w' := by
  obtain ⟨p, cap, rfl, h1, h2, h3, _⟩ := own8_src hv.out
  obtain ⟨ts, ds, k1, k2, k3⟩ := hh.out
  subst k3
  exact rhash_any s p _ cap (encL l) w (Lib.hid (.inl h1)) (Lib.hid (encL_rng hok.out)) hs (by have := encL_len hok.out hl; omega) ts ds (Lib.hid (by rw [hst]; exact k1)) (Lib.hid k2)
theorem renc3 (a b : Int) (ha : 0 ≤ a ∧ a < 2147483579) (hb : 0 ≤ b ∧ b < 2147483579) (bs : List Int) (st : ByteArray) (w : World) (g : Nat) (hst : strB bs = st) (hs : Hid (txOk bs)) (hB : Hid (Blk w g #[.int .i64 1, .int .i64 a, .string ⟨#[]⟩, .slice none 0 0, .int .i64 1, .int .i64 b, .string ⟨#[]⟩, .slice none 0 0, .int .i64 2, .int .i64 0, .string st, .slice none 0 0] 53)) :
    Calls Tryz.prog 60 #[.agg #[.int .i64 3, .int .i64 0, .string ⟨#[]⟩, .slice (some ⟨g, 0, none⟩) 3 3]] w
      fun e w' => ∃ v', e = .returned (.tuple #[v', .int .i64 0]) ∧ Own8 w' w.heap.size v' (encL [.int a, .int b, .text bs]) ∧ Below w.heap.size w w' := by
  subst hst
  have hB := hB.out
  refine rEncode_list [.int a, .int b, .text bs] g 0 3 3 w (Lib.hid rfl) (by omega) (Lib.hid (ok3 ha hb hs.out)) hB.lt (Lib.hid ?_) (Lib.hid (by rw [lenA3]; have := hs.out.1; omega))
  intro k hk
  have hk' : k < 3 := hk
  rcases (by omega : k = 0 ∨ k = 1 ∨ k = 2) with rfl | rfl | rfl
  · exact ⟨hB.cell 0, hB.cell 1, hB.cell 2, hB.cell 3⟩
  · exact ⟨hB.cell 4, hB.cell 5, hB.cell 6, hB.cell 7⟩
  · exact ⟨hB.cell 8, hB.cell 9, hB.cell 10, hB.cell 11⟩
set_option maxRecDepth 100000 in
set_option maxHeartbeats 4000000 in
theorem rchallenge_any (a b : Int) (p : Option Addr) (m c : Nat) (bs : List Int) (w : World) (ha : 0 ≤ a ∧ a < 2147483579) (hb : 0 ≤ b ∧ b < 2147483579) (hs : Hid (txOk bs)) (hz : Hid (SrcW w p m c bs)) (h : Int) (hh : Hid (IsCh a b bs h)) :
    Calls Tryz.prog 54 #[.int .i64 a, .int .i64 b, .slice p m c] w fun e w' => e = .returned (.int .i64 h) ∧ Below w.heap.size w w' := by
  have HA := Lib.hid ha; have HB := Lib.hid hb; clear ha hb
  obtain ⟨st, hst⟩ : ∃ st, strB bs = st := ⟨_, rfl⟩
  have HST := Lib.hid hst
  clear hst
  go_enter Tryz.func54, Tryz.ntmps54
  go_wp2_with fail
  refine wp_region_any (by kernel_rfl) ?_
  change wpAny _ _ _ _ _ _ _ (World.drew _)
  generalize hWD : World.drew w = W
  have EW := Lib.hid (show Below w.heap.size w W by rw [← hWD]; exact (Below.refl _ w).drew)
  clear hWD
  have hCD : ∀ u, Ext W u → Ext W u := fun u hu => hu
  have ZW := Lib.hid (hz.out.below EW.out)
  refine region_U (D := Ext W) (Ext W) [14] (Ext.refl W) ?_
  refine anyU_takeD (i := 0) (v := .int .i64 a) 10 rfl rfl (by kernel_rfl) (by kernel_rfl) (by kernel_rfl) (fun _ _ _ h => h) (by kernel_rfl) (Ext.stable _) hCD (yieldsU_val rfl (fun u hu => by rfl)) ?_
  refine anyU_takeD (i := 1) (v := .agg #[.int .i64 1, .int .i64 a, .string ⟨#[]⟩, .slice none 0 0]) 11 rfl rfl (by kernel_rfl) (by kernel_rfl) (by kernel_rfl) (fun _ _ _ h => h) (by kernel_rfl) (Ext.stable _) hCD (yieldsU_call rfl 87 _ _ rfl #[.int .i64 a] (by simp [Act.eval, Act.put]) (fun u => by go_simp) (fun u hu => rInt_any a u)) ?_
  simp only [Act.put, List.setIfInBounds_toArray, List.set_cons_succ, List.set_cons_zero]
  refine anyU_takeD (i := 2) (v := .int .i64 b) 12 rfl rfl (by kernel_rfl) (by kernel_rfl) (by kernel_rfl) (fun _ _ _ h => h) (by kernel_rfl) (Ext.stable _) hCD (yieldsU_val rfl (fun u hu => by rfl)) ?_
  refine anyU_takeD (i := 3) (v := .agg #[.int .i64 1, .int .i64 b, .string ⟨#[]⟩, .slice none 0 0]) 13 rfl rfl (by kernel_rfl) (by kernel_rfl) (by kernel_rfl) (fun _ _ _ h => h) (by kernel_rfl) (Ext.stable _) hCD (yieldsU_call rfl 87 _ _ rfl #[.int .i64 b] (by simp [Act.eval, Act.put]) (fun u => by go_simp) (fun u hu => rInt_any b u)) ?_
  simp only [Act.put, List.setIfInBounds_toArray, List.set_cons_succ, List.set_cons_zero]
  refine anyU_takeD (i := 4) (v := .slice p m c) 14 rfl rfl (by kernel_rfl) (by kernel_rfl) (by kernel_rfl) (fun _ _ _ h => h) (by kernel_rfl) (Ext.stable _) hCD (yieldsU_val rfl (fun u hu => by rfl)) ?_
  refine anyU_takeD (i := 5) (v := .string st) 15 rfl rfl (by kernel_rfl) (by kernel_rfl) (by kernel_rfl) (fun _ _ _ h => h) (by kernel_rfl) (Ext.stable _) hCD (yieldsU_val rfl (fun u hu => by have hc := conv_srcW (ZW.out.below hu); rw [HST.out] at hc; go_simp)) ?_
  refine anyU_takeD (i := 6) (v := .agg #[.int .i64 2, .int .i64 0, .string st, .slice none 0 0]) 16 rfl rfl (by kernel_rfl) (by kernel_rfl) (by kernel_rfl) (fun _ _ _ h => h) (by kernel_rfl) (Ext.stable _) hCD (yieldsU_call rfl 88 _ _ rfl #[.string st] (by simp [Act.eval, Act.put]) (fun u => by go_simp) (fun u hu => rText_any st u)) ?_
  simp only [Act.put, List.setIfInBounds_toArray, List.set_cons_succ, List.set_cons_zero]
  refine anyU_one 7 7 _ rfl rfl (by kernel_rfl) ?_
  intro u1 hu
  go_wp2_with fail
  change ∃ C' : World → Prop, _ ∧ _ ∧ _ ∧ anyU _ _ _ _ _ _ 7 _ _ _
  have Z1 := Lib.hid (Blk.new u1 #[.int .i64 1, .int .i64 a, .string ⟨#[]⟩, .slice none 0 0, .int .i64 1, .int .i64 b, .string ⟨#[]⟩, .slice none 0 0, .int .i64 2, .int .i64 0, .string st, .slice none 0 0] 53)
  have E1 := Lib.hid (Ext.trans hu (bel_alloc1 u1 (.cells #[.int .i64 1, .int .i64 a, .string ⟨#[]⟩, .slice none 0 0, .int .i64 1, .int .i64 b, .string ⟨#[]⟩, .slice none 0 0, .int .i64 2, .int .i64 0, .string st, .slice none 0 0] 53)))
  generalize World.alloc u1 _ = u2 at Z1 E1 ⊢
  generalize u1.heap.size = bb at Z1 ⊢
  clear hu
  refine anchorF (fun z => Ext W z ∧ Blk z bb #[.int .i64 1, .int .i64 a, .string ⟨#[]⟩, .slice none 0 0, .int .i64 1, .int .i64 b, .string ⟨#[]⟩, .slice none 0 0, .int .i64 2, .int .i64 0, .string st, .slice none 0 0] 53) (fun z hz => hz.1) ((Ext.stable W).and (fun z z' h k => h.below k h.lt)) ⟨E1.out, Z1.out⟩ ?_
  (try simp only [Act.put])
  refine anyU_one 8 6 _ rfl rfl (by kernel_rfl) ?_
  intro u3 hu3
  go_wp2_with fail
  refine (rList_any (some ⟨bb, 0, none⟩) 3 3 u3).mono ?_
  rintro q u4 ⟨rfl, hb⟩
  have X4 := Lib.hid (Ext.trans hu3.1 hb)
  have Z4 := Lib.hid (hu3.2.below hb hu3.2.lt)
  clear hb hu3
  go_wp2_with fail
  change ∃ C' : World → Prop, _ ∧ _ ∧ _ ∧ anyU _ _ _ _ _ _ 6 _ _ _
  refine anchorF (fun z => Ext W z ∧ Blk z bb #[.int .i64 1, .int .i64 a, .string ⟨#[]⟩, .slice none 0 0, .int .i64 1, .int .i64 b, .string ⟨#[]⟩, .slice none 0 0, .int .i64 2, .int .i64 0, .string st, .slice none 0 0] 53) (fun z hz => hz.1) ((Ext.stable W).and (fun z z' h k => h.below k h.lt)) ⟨X4.out, Z4.out⟩ ?_
  (try simp only [Act.put])
  refine anyU_one 9 5 _ rfl rfl (by kernel_rfl) ?_
  intro u5 hu5
  go_wp2_with fail
  refine (renc3 a b HA.out HB.out bs st u5 bb HST.out hs (Lib.hid hu5.2)).mono ?_
  rintro q u6 ⟨v5, rfl, o5, hb⟩
  have X6 := Lib.hid (Ext.trans hu5.1 hb)
  have O6 := Lib.hid (own8_mono o5 hu5.1.size)
  clear o5 hb hu5
  go_wp2_with fail
  change ∃ C' : World → Prop, _ ∧ _ ∧ _ ∧ anyU _ _ _ _ _ _ 5 _ _ _
  have hST2 : Stable (fun z => Ext W z ∧ Own8 z W.heap.size v5 (encL [.int a, .int b, .text bs])) := ((Ext.stable W).and (fun z z' h k => own8_below h k))
  have hF2 : ∀ z, (fun z => Ext W z ∧ Own8 z W.heap.size v5 (encL [.int a, .int b, .text bs])) z → Ext W z := fun z hz => hz.1
  refine anchorF (fun z => Ext W z ∧ Own8 z W.heap.size v5 (encL [.int a, .int b, .text bs])) (fun z hz => hz.1) hST2 ⟨X6.out, O6.out⟩ ?_
  (try simp only [Act.put])
  refine anyU_takeD (i := 10) (v := .tuple #[v5, .int .i64 0]) 9 rfl rfl (by kernel_rfl) (by kernel_rfl) (by kernel_rfl) (fun _ _ _ h => h) (by kernel_rfl) hST2 hF2 (yieldsU_val rfl (fun u hu => by rfl)) ?_
  refine anyU_takeD (i := 11) (v := v5) 20 rfl rfl (by kernel_rfl) (by kernel_rfl) (by kernel_rfl) (fun _ _ _ h => h) (by kernel_rfl) hST2 hF2 (yieldsU_val rfl (fun u hu => by go_simp)) ?_
  refine anyU_takeD (i := 12) (v := .int .i64 0) 21 rfl rfl (by kernel_rfl) (by kernel_rfl) (by kernel_rfl) (fun _ _ _ h => h) (by kernel_rfl) hST2 hF2 (yieldsU_val rfl (fun u hu => by go_simp)) ?_
  simp only [Act.put, List.setIfInBounds_toArray, List.set_cons_succ, List.set_cons_zero]
  refine anyU_one 13 1 _ rfl rfl (by kernel_rfl) ?_
  intro u7 hu7
  go_wp2_with fail
  change ∃ C' : World → Prop, _ ∧ _ ∧ _ ∧ anyU _ _ _ _ _ _ 1 _ _ _
  refine anchorF (fun z => Ext W z ∧ Own8 z W.heap.size v5 (encL [.int a, .int b, .text bs])) (fun z hz => hz.1) hST2 hu7 ?_
  (try simp only [Act.put])
  refine anyU_tail 14 [] rfl rfl (by decide) (by kernel_rfl) ?_
  intro u8 hu8
  simp only [Act.put, List.filterMap_cons, List.filterMap_nil, List.getElem?_cons_succ, List.getElem?_cons_zero]
  have X8 := Lib.hid hu8.1
  have O8 := Lib.hid hu8.2
  clear hu8 hST2 hF2
  have B8 := Lib.hid (bel_trans EW.out X8.out)
  go_wp2_with (go_at_call 89; refine (rhash_is _ tSign _ _ v5 u8 strSign O8 (Lib.hid (ok3 HA.out HB.out hs.out)) (by simp) (by rw [lenA3]; have := hs.out.1; omega) (by decide) h hh).mono ?_; rintro q u9 ⟨rfl, hb⟩; have B9 := Lib.hid (bel_trans B8.out hb); clear hb)
  go_ret
  exact ⟨rfl, B9.out⟩
set_option maxHeartbeats 1000000 in
theorem rpoint_is (key e s pt : Int) (w : World) (hk : Hid (elB key = true)) (e0 : 0 ≤ e) (e1 : e < 1073741789) (h : Hid (IsPt key e s pt)) :
    Calls Tryz.prog 55 #[.int .i64 key, .agg #[.int .i64 e, .int .i64 s]] w fun r w' => r = .returned (.int .i64 pt) ∧ Below w.heap.size w w' := by
  have h1 := h.out.eq
  obtain ⟨l, hl⟩ := isPw 4 s
  obtain ⟨q, hq⟩ := isPw key (-e)
  have el := powZ_el elB_4 s
  have eq := powZ_el hk.out (-e)
  unfold ptZ at h1
  rw [hl.eq, hq.eq] at h1
  rw [hl.eq] at el
  rw [hq.eq] at eq
  have HL := Lib.hid hl; have HQ := Lib.hid hq; have HPT := Lib.hid (show IsMl l q pt from ⟨h1⟩); have HEL := Lib.hid el; have HEQ := Lib.hid eq
  clear h1 hl hq el eq
  go_enter Tryz.func55, Tryz.ntmps55
  go_wp2_with (first
    | (go_at_call 90; ((with_reducible refine (rpow_is 4 s l _ HL (Lib.hid pe4)).mono ?_); rintro r u2 ⟨rfl, rfl⟩))
    | (go_at_call 90; ((with_reducible refine (rpow_is key (-e) q _ HQ (Lib.hid (pe_el hk.out))).mono ?_); rintro r u3 ⟨rfl, rfl⟩))
    | (go_at_call 91; ((with_reducible refine (rmul_is l q pt _ HPT HEL.out HEQ.out).mono ?_); rintro r u4 ⟨rfl, rfl⟩)))
  go_ret
  exact ⟨rfl, bel_alloc1 w _⟩
set_option maxRecDepth 100000 in
set_option maxHeartbeats 2000000 in
theorem rverify_b0 (key e s : Int) (p : Option Addr) (m c : Nat) (w : World) (hk1 : Hid (elB key = false)) : Calls Tryz.prog 24 #[.int .i64 key, .slice p m c, .agg #[.int .i64 e, .int .i64 s]] w fun r w' => r = .returned (.bool false) ∧ Below w.heap.size w w' := by
  have V := Blk.new w #[.int .i64 e, .int .i64 s] 25
  have c0 := V.cell 0
  have c1 := V.cell 1
  clear V
  go_enter Tryz.func24, Tryz.ntmps24
  go_wp2_with (go_at_call 53; refine (rvalid_is key false _ hk1).mono ?_; rintro r u1 ⟨rfl, rfl⟩)
  go_ret
  exact ⟨rfl, bel_alloc1 w _⟩
set_option maxRecDepth 100000 in
set_option maxHeartbeats 2000000 in
theorem rverify_b1 (key e s : Int) (p : Option Addr) (m c : Nat) (w : World) (hk1 : Hid (elB key = true)) (h1 : e < 0) : Calls Tryz.prog 24 #[.int .i64 key, .slice p m c, .agg #[.int .i64 e, .int .i64 s]] w fun r w' => r = .returned (.bool false) ∧ Below w.heap.size w w' := by
  have V := Blk.new w #[.int .i64 e, .int .i64 s] 25
  have c0 := V.cell 0
  have c1 := V.cell 1
  clear V
  go_enter Tryz.func24, Tryz.ntmps24
  go_wp2_with (go_at_call 53; refine (rvalid_is key true _ hk1).mono ?_; rintro r u1 ⟨rfl, rfl⟩)
  go_ret
  exact ⟨rfl, bel_alloc1 w _⟩
set_option maxRecDepth 100000 in
set_option maxHeartbeats 2000000 in
theorem rverify_b2 (key e s : Int) (p : Option Addr) (m c : Nat) (w : World) (hk1 : Hid (elB key = true)) (h1 : ¬ e < 0) (h2 : 1073741789 ≤ e) : Calls Tryz.prog 24 #[.int .i64 key, .slice p m c, .agg #[.int .i64 e, .int .i64 s]] w fun r w' => r = .returned (.bool false) ∧ Below w.heap.size w w' := by
  have V := Blk.new w #[.int .i64 e, .int .i64 s] 25
  have c0 := V.cell 0
  have c1 := V.cell 1
  clear V
  go_enter Tryz.func24, Tryz.ntmps24
  go_wp2_with (go_at_call 53; refine (rvalid_is key true _ hk1).mono ?_; rintro r u1 ⟨rfl, rfl⟩)
  go_ret
  exact ⟨rfl, bel_alloc1 w _⟩
set_option maxRecDepth 100000 in
set_option maxHeartbeats 2000000 in
theorem rverify_b3 (key e s : Int) (p : Option Addr) (m c : Nat) (w : World) (hk1 : Hid (elB key = true)) (h1 : ¬ e < 0) (h2 : ¬ 1073741789 ≤ e) (h3 : s < 0) : Calls Tryz.prog 24 #[.int .i64 key, .slice p m c, .agg #[.int .i64 e, .int .i64 s]] w fun r w' => r = .returned (.bool false) ∧ Below w.heap.size w w' := by
  have V := Blk.new w #[.int .i64 e, .int .i64 s] 25
  have c0 := V.cell 0
  have c1 := V.cell 1
  clear V
  go_enter Tryz.func24, Tryz.ntmps24
  go_wp2_with (go_at_call 53; refine (rvalid_is key true _ hk1).mono ?_; rintro r u1 ⟨rfl, rfl⟩)
  go_ret
  exact ⟨rfl, bel_alloc1 w _⟩
set_option maxRecDepth 100000 in
set_option maxHeartbeats 2000000 in
theorem rverify_b4 (key e s : Int) (p : Option Addr) (m c : Nat) (w : World) (hk1 : Hid (elB key = true)) (h1 : ¬ e < 0) (h2 : ¬ 1073741789 ≤ e) (h3 : ¬ s < 0) (h4 : 1073741789 ≤ s) : Calls Tryz.prog 24 #[.int .i64 key, .slice p m c, .agg #[.int .i64 e, .int .i64 s]] w fun r w' => r = .returned (.bool false) ∧ Below w.heap.size w w' := by
  have V := Blk.new w #[.int .i64 e, .int .i64 s] 25
  have c0 := V.cell 0
  have c1 := V.cell 1
  clear V
  go_enter Tryz.func24, Tryz.ntmps24
  go_wp2_with (go_at_call 53; refine (rvalid_is key true _ hk1).mono ?_; rintro r u1 ⟨rfl, rfl⟩)
  go_ret
  exact ⟨rfl, bel_alloc1 w _⟩
set_option maxRecDepth 100000 in
set_option maxHeartbeats 4000000 in
theorem rverify_good (key e s : Int) (p : Option Addr) (m c : Nat) (bs : List Int) (w : World) (hk1 : Hid (elB key = true))  (h1 : ¬ e < 0) (h2 : ¬ 1073741789 ≤ e) (h3 : ¬ s < 0) (h4 : ¬ 1073741789 ≤ s) (hs : Hid (txOk bs)) (hz : Hid (SrcW w p m c bs)) (pt h : Int) (HPT : Hid (IsPt key e s pt)) (HPB : Hid (0 ≤ pt ∧ pt < 2147483579)) (HKB : Hid (0 ≤ key ∧ key < 2147483579)) (HCH : Hid (IsCh pt key bs h)) :
    Calls Tryz.prog 24 #[.int .i64 key, .slice p m c, .agg #[.int .i64 e, .int .i64 s]] w fun r w' => r = .returned (.bool (e == h)) ∧ Below w.heap.size w w' := by
  have V := Blk.new w #[.int .i64 e, .int .i64 s] 25
  have c0 := V.cell 0
  have c1 := V.cell 1
  clear V
  go_enter Tryz.func24, Tryz.ntmps24
  go_wp2_with (go_at_call 53; refine (rvalid_is key true _ hk1).mono ?_; rintro r u1 ⟨rfl, rfl⟩)
  refine wp_region_any (by kernel_rfl) ?_
  change wpAny _ _ _ _ _ _ _ (World.drew _)
  generalize hWD : World.drew _ = W
  have EW := Lib.hid (show Below w.heap.size w W by rw [← hWD]; exact (bel_alloc1 w _).drew)
  have VW := Lib.hid (show Blk W w.heap.size #[.int .i64 e, .int .i64 s] 25 by rw [← hWD]; exact Blk.new w _ _)
  clear hWD c0 c1
  have hCD : ∀ u, Ext W u → Ext W u := fun u hu => hu
  have ZW := Lib.hid (hz.out.below EW.out)
  refine region_U (D := Ext W) (Ext W) [8, 9] (Ext.refl W) ?_
  refine anyU_takeD (i := 0) (v := .pointer (some ⟨w.heap.size, 0, none⟩)) 30 rfl rfl (by kernel_rfl) (by kernel_rfl) (by kernel_rfl) (fun _ _ _ h => h) (by kernel_rfl) (Ext.stable _) hCD (yieldsU_val rfl (fun u hu => by go_simp)) ?_
  refine anyU_takeD (i := 1) (v := .int .i64 e) 31 rfl rfl (by kernel_rfl) (by kernel_rfl) (by kernel_rfl) (fun _ _ _ h => h) (by kernel_rfl) (Ext.stable _) hCD (yieldsU_val rfl (fun u hu => by have cc := (VW.out.below hu VW.out.lt).cell 0; go_simp)) ?_
  refine anyU_takeD (i := 2) (v := .int .i64 key) 32 rfl rfl (by kernel_rfl) (by kernel_rfl) (by kernel_rfl) (fun _ _ _ h => h) (by kernel_rfl) (Ext.stable _) hCD (yieldsU_val rfl (fun u hu => by rfl)) ?_
  refine anyU_takeD (i := 3) (v := .agg #[.int .i64 e, .int .i64 s]) 33 rfl rfl (by kernel_rfl) (by kernel_rfl) (by kernel_rfl) (fun _ _ _ h => h) (by kernel_rfl) (Ext.stable _) hCD (yieldsU_val rfl (fun u hu => by have VV := VW.out.below hu VW.out.lt; have d0 := VV.cell 0; have d1 := VV.cell 1; go_simp)) ?_
  simp only [Act.put, List.setIfInBounds_toArray, List.set_cons_succ, List.set_cons_zero]
  refine anyU_takeD (i := 4) (v := .int .i64 pt) 34 rfl rfl (by kernel_rfl) (by kernel_rfl) (by kernel_rfl) (fun _ _ _ h => h) (by kernel_rfl) (Ext.stable _) hCD (yieldsU_call rfl 55 _ _ rfl #[.int .i64 key, .agg #[.int .i64 e, .int .i64 s]] (by simp [Act.eval, Act.put]) (fun u => by go_simp) (fun u hu => rpoint_is key e s pt u hk1 (by omega) (by omega) HPT)) ?_
  simp only [Act.put, List.setIfInBounds_toArray, List.set_cons_succ, List.set_cons_zero]
  refine anyU_takeD (i := 5) (v := .int .i64 key) 35 rfl rfl (by kernel_rfl) (by kernel_rfl) (by kernel_rfl) (fun _ _ _ h => h) (by kernel_rfl) (Ext.stable _) hCD (yieldsU_val rfl (fun u hu => by rfl)) ?_
  refine anyU_takeD (i := 6) (v := .slice p m c) 36 rfl rfl (by kernel_rfl) (by kernel_rfl) (by kernel_rfl) (fun _ _ _ h => h) (by kernel_rfl) (Ext.stable _) hCD (yieldsU_val rfl (fun u hu => by rfl)) ?_
  refine anyU_takeD (i := 7) (v := .int .i64 h) 37 rfl rfl (by kernel_rfl) (by kernel_rfl) (by kernel_rfl) (fun _ _ _ h => h) (by kernel_rfl) (Ext.stable _) hCD (yieldsU_call rfl 54 _ _ rfl #[.int .i64 pt, .int .i64 key, .slice p m c] (by simp [Act.eval, Act.put]) (fun u => by go_simp) (fun u hu => rchallenge_any pt key p m c bs u HPB.out HKB.out hs (Lib.hid (ZW.out.below hu)) h HCH)) ?_
  simp only [Act.put, List.setIfInBounds_toArray, List.set_cons_succ, List.set_cons_zero]
  refine anyU_tail 8 [9] rfl rfl (by decide) (by kernel_rfl) ?_
  intro u1 hu
  simp only [Act.put, List.filterMap_cons, List.filterMap_nil, List.getElem?_cons_succ, List.getElem?_cons_zero]
  have BU := Lib.hid (bel_trans EW.out hu)
  clear hu
  go_wp2_with fail
  go_ret
  exact ⟨rfl, BU.out⟩
theorem rverify_is (key e s : Int) (p : Option Addr) (m c : Nat) (bs : List Int) (w : World) (hs : Hid (txOk bs)) (hz : Hid (SrcW w p m c bs)) (v : Bool) (hv : Hid (IsVer key bs e s v)) :
    Calls Tryz.prog 24 #[.int .i64 key, .slice p m c, .agg #[.int .i64 e, .int .i64 s]] w fun r w' => r = .returned (.bool v) ∧ Below w.heap.size w w' := by
  obtain ⟨h, hc, hvv⟩ := hv.out
  have qe : ∀ n : Int, n < 0 → inQ n = false := fun n h => by unfold inQ; simp; omega
  have qb : ∀ n : Int, 1073741789 ≤ n → inQ n = false := fun n h => by unfold inQ; simp; omega
  cases hk : elB key with
  | false => rw [hk] at hvv; subst hvv; exact rverify_b0 key e s p m c w (Lib.hid hk)
  | true =>
    by_cases h1 : e < 0
    · rw [hk, qe e h1] at hvv; subst hvv; exact rverify_b1 key e s p m c w (Lib.hid hk) h1
    by_cases h2 : 1073741789 ≤ e
    · rw [hk, qb e h2] at hvv; subst hvv; exact rverify_b2 key e s p m c w (Lib.hid hk) h1 h2
    by_cases h3 : s < 0
    · rw [hk, qe s h3, Bool.and_false] at hvv; subst hvv; exact rverify_b3 key e s p m c w (Lib.hid hk) h1 h2 h3
    by_cases h4 : 1073741789 ≤ s
    · rw [hk, qb s h4, Bool.and_false] at hvv; subst hvv; exact rverify_b4 key e s p m c w (Lib.hid hk) h1 h2 h3 h4
    obtain ⟨pt, hpt⟩ := isPt key e s
    have pe := ptZ_el (e := e) (s := s) hk
    rw [hpt.eq] at hc pe
    have b1 := elB_iff pe
    have b2 := elB_iff hk
    have hg := rverify_good key e s p m c bs w (Lib.hid hk) h1 h2 h3 h4 hs hz pt h (Lib.hid hpt) (Lib.hid ⟨by omega, by omega⟩) (Lib.hid ⟨by omega, by omega⟩) (Lib.hid hc)
    rw [hk, inQ_iff.2 ⟨by omega, by omega⟩, inQ_iff.2 ⟨by omega, by omega⟩, Bool.true_and, Bool.true_and] at hvv
    have : (e == h) = v := by rw [hvv]; by_cases q : e = h <;> simp [q]
    rw [this] at hg
    exact hg
end Go.Proofs.YtjdkdhpippapmaaGreatDoor
