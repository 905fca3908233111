/- The reference of layer 2: the state after a block. -/
import Derived.Test.YtmheblpgofeafaaDoorRefSha0
import Derived.Test.YtmheblpgofeafaaDoorRefNum
import Derived.Test.YtmheblpgofeafaaDoorQuietTail
namespace Go.Proofs.YtmheblpgofeafaaDoor
open Go.RowKit
set_option linter.unusedVariables false
set_option linter.unusedSimpArgs false

theorem word4_sched {bs ws : List Int} (hr : ∀ z ∈ bs, 0 ≤ z ∧ z ≤ 255) (hws : IsSched bs ws) {k : Nat} (hk : k < 16) : word4 (bs.getD (4 * k) 0) (bs.getD (4 * k + 1) 0) (bs.getD (4 * k + 2) 0) (bs.getD (4 * k + 3) 0) = ws.getD k 0 := by
  rw [word4_eq bs hr k, hws.2.1 k hk]
theorem Blk.dn {W : World} {b : Nat} {c : Array Value} {t : TypeId} (h : Blk W b c t) (n : Nat) : Blk (W.drewN n) b c t := h
/-- what stands through the reference's work on a block -/
def Stand (w W : World) (wb : Nat) (s : S8) (ws : List Int) : Prop :=
  Below w.heap.size w W ∧ Blk W w.heap.size (wv s.toList).toArray 54 ∧ Blk W (w.heap.size + 1) (wv (List.replicate 8 0)).toArray 54 ∧ Blk W wb (wv ws).toArray 70 ∧ w.heap.size + 2 ≤ wb
theorem Stand.dn {w W : World} {wb : Nat} {s : S8} {ws : List Int} (h : Stand w W wb s ws) (n : Nat) : Stand w (W.drewN n) wb s ws := ⟨bel_dn h.1 n, h.2⟩
theorem Stand.set {w W : World} {wb : Nat} {s : S8} {ws : List Int} (h : Stand w W wb s ws) (k : Nat) (x : Int) : Stand w (W.setCell ⟨wb, k, none⟩ (.int .u32 x)) wb s (ws.set k x) := by
  refine ⟨h.1.setCell (p := ⟨wb, k, none⟩) (by have := h.2.2.2.2; show w.heap.size ≤ wb; omega) _, h.2.1.other (b' := wb) k _ (by have := h.2.2.2.2; omega), h.2.2.1.other (b' := wb) k _ (by have := h.2.2.2.2; omega), ?_, h.2.2.2.2⟩
  have := h.2.2.2.1.set k (.int .u32 x)
  rw [wv_set] at this
  exact this

theorem len8 (S : S8) : (wv S.toList).length = (wv (List.replicate 8 0)).length := rfl
theorem sizeT8' (zs : List Int) (h : zs.length = 8) : (Tryd.prog.info? 54).map (·.size) = some (wv zs).length := by
  rw [wv_len, h]; kernel_rfl
theorem sizeT8 (zs : List Int) (h : zs.length = 8) : (Tryd.prog.info? 54).map (·.size) = some (wv zs).toArray.size := by
  simp only [List.size_toArray, wv_len, h]; kernel_rfl
theorem nest5 (h a b k w : Int) : ((((h + a) % 4294967296 + b) % 4294967296 + k) % 4294967296 + w) % 4294967296 = (h + a + b + k + w) % 4294967296 := by omega
theorem Stand.below {w W W' : World} {wb : Nat} {s : S8} {ws : List Int} (h : Stand w W wb s ws) (k : Below W.heap.size W W') : Stand w W' wb s ws :=
  ⟨h.1.trans (k.mono h.1.size), h.2.1.below k h.2.1.lt, h.2.2.1.below k h.2.2.1.lt, h.2.2.2.1.below k h.2.2.2.1.lt, h.2.2.2.2⟩
theorem Stand.others {w W : World} {wb b : Nat} {s : S8} {ws : List Int} (h : Stand w W wb s ws) (hb : wb < b) (hn : w.heap.size ≤ b) (vs : List Value) (o : Nat) : Stand w (W.setCells b o vs) wb s ws :=
  ⟨setCells_below hn _ _ h.1, Blk.others (by have := h.2.2.2.2; omega) _ _ h.2.1, Blk.others (by have := h.2.2.2.2; omega) _ _ h.2.2.1, Blk.others (by omega) _ _ h.2.2.2.1, h.2.2.2.2⟩

set_option maxRecDepth 100000 in
set_option maxHeartbeats 1600000 in
theorem rblock_any (s : S8) (b off cap : Nat) (bs : List Int) (w : World) (hl : Hid (bs.length = 64)) (hcap : 64 ≤ cap) (hmax : cap ≤ 9223372036854775807) (hb : b < w.heap.size)
    (hc : Hid (BytesAt w b off bs)) (hr : Hid (∀ z ∈ bs, 0 ≤ z ∧ z ≤ 255)) (ws : List Int) (hws : Hid (IsSched bs ws)) (R : Nat → S8) (hR : Hid (IsRounds s ws R)) :
    Calls Tryd.prog 41 #[.agg #[.int .u32 s.a, .int .u32 s.b, .int .u32 s.c, .int .u32 s.d, .int .u32 s.e, .int .u32 s.f, .int .u32 s.g, .int .u32 s.h], .slice (some ⟨b, off, none⟩) 64 cap] w
      fun e w' => e = .returned (.agg (wv (addS s (R 64)).toList).toArray) ∧ Below w.heap.size w w' := by
  have hz64 : (List.replicate 64 (0 : Int)).length = 64 := by simp
  have hlit : [.int .u32 0, .int .u32 0, .int .u32 0, .int .u32 0, .int .u32 0, .int .u32 0, .int .u32 0, .int .u32 0, .int .u32 0, .int .u32 0, .int .u32 0, .int .u32 0, .int .u32 0, .int .u32 0, .int .u32 0, .int .u32 0, .int .u32 0, .int .u32 0, .int .u32 0, .int .u32 0, .int .u32 0, .int .u32 0, .int .u32 0, .int .u32 0, .int .u32 0, .int .u32 0, .int .u32 0, .int .u32 0, .int .u32 0, .int .u32 0, .int .u32 0, .int .u32 0, .int .u32 0, .int .u32 0, .int .u32 0, .int .u32 0, .int .u32 0, .int .u32 0, .int .u32 0, .int .u32 0, .int .u32 0, .int .u32 0, .int .u32 0, .int .u32 0, .int .u32 0, .int .u32 0, .int .u32 0, .int .u32 0, .int .u32 0, .int .u32 0, .int .u32 0, .int .u32 0, .int .u32 0, .int .u32 0, .int .u32 0, .int .u32 0, .int .u32 0, .int .u32 0, .int .u32 0, .int .u32 0, .int .u32 0, .int .u32 0, .int .u32 0, .int .u32 0] = wv (List.replicate 64 0) := rfl
  generalize hzz : List.replicate 64 (0 : Int) = zz at hz64 hlit
  have HL := Lib.hid hlit
  have HZZ := Lib.hid hzz
  clear hlit hzz
  have q2 := size64 zz hz64
  have q3 := all_oneCell_toArray (wv_one zz)
  have q1 : (((w.alloc (.cells #[.int .u32 s.a, .int .u32 s.b, .int .u32 s.c, .int .u32 s.d, .int .u32 s.e, .int .u32 s.f, .int .u32 s.g, .int .u32 s.h] 54)).alloc (.cells #[.int .u32 0, .int .u32 0, .int .u32 0, .int .u32 0, .int .u32 0, .int .u32 0, .int .u32 0, .int .u32 0] 54)).alloc (.cells #[.int .u32 0, .int .u32 0, .int .u32 0, .int .u32 0, .int .u32 0, .int .u32 0, .int .u32 0, .int .u32 0, .int .u32 0, .int .u32 0, .int .u32 0, .int .u32 0, .int .u32 0, .int .u32 0, .int .u32 0, .int .u32 0, .int .u32 0, .int .u32 0, .int .u32 0, .int .u32 0, .int .u32 0, .int .u32 0, .int .u32 0, .int .u32 0, .int .u32 0, .int .u32 0, .int .u32 0, .int .u32 0, .int .u32 0, .int .u32 0, .int .u32 0, .int .u32 0, .int .u32 0, .int .u32 0, .int .u32 0, .int .u32 0, .int .u32 0, .int .u32 0, .int .u32 0, .int .u32 0, .int .u32 0, .int .u32 0, .int .u32 0, .int .u32 0, .int .u32 0, .int .u32 0, .int .u32 0, .int .u32 0, .int .u32 0, .int .u32 0, .int .u32 0, .int .u32 0, .int .u32 0, .int .u32 0, .int .u32 0, .int .u32 0, .int .u32 0, .int .u32 0, .int .u32 0, .int .u32 0, .int .u32 0, .int .u32 0, .int .u32 0, .int .u32 0] 70)).there (w.heap.size + 1 + 1) 0 (wv zz).toArray.size := by
    have := there64 ((w.alloc (.cells #[.int .u32 s.a, .int .u32 s.b, .int .u32 s.c, .int .u32 s.d, .int .u32 s.e, .int .u32 s.f, .int .u32 s.g, .int .u32 s.h] 54)).alloc (.cells #[.int .u32 0, .int .u32 0, .int .u32 0, .int .u32 0, .int .u32 0, .int .u32 0, .int .u32 0, .int .u32 0] 54)) zz hz64
    simpa using this
  go_enter Tryd.func41, Tryd.ntmps41
  go_upto_region 2 with (refine wpList_store_mid rfl 70 (.tmp 5) (.tmp 22) rfl (w.heap.size + 1 + 1) 0 (wv zz).toArray rfl ?hy q1 q2 q3 ?_)
  case hy => exact HL.out
  simp only [Act.put]
  generalize hW : World.setCells _ _ _ _ = W0
  have ST0 : Hid (Stand w W0 (w.heap.size + 1 + 1) s zz) := Lib.hid (by
    rw [← hW]
    have b3 : Below w.heap.size w (((w.alloc (.cells #[.int .u32 s.a, .int .u32 s.b, .int .u32 s.c, .int .u32 s.d, .int .u32 s.e, .int .u32 s.f, .int .u32 s.g, .int .u32 s.h] 54)).alloc (.cells #[.int .u32 0, .int .u32 0, .int .u32 0, .int .u32 0, .int .u32 0, .int .u32 0, .int .u32 0, .int .u32 0] 54)).alloc (.cells #[.int .u32 0, .int .u32 0, .int .u32 0, .int .u32 0, .int .u32 0, .int .u32 0, .int .u32 0, .int .u32 0, .int .u32 0, .int .u32 0, .int .u32 0, .int .u32 0, .int .u32 0, .int .u32 0, .int .u32 0, .int .u32 0, .int .u32 0, .int .u32 0, .int .u32 0, .int .u32 0, .int .u32 0, .int .u32 0, .int .u32 0, .int .u32 0, .int .u32 0, .int .u32 0, .int .u32 0, .int .u32 0, .int .u32 0, .int .u32 0, .int .u32 0, .int .u32 0, .int .u32 0, .int .u32 0, .int .u32 0, .int .u32 0, .int .u32 0, .int .u32 0, .int .u32 0, .int .u32 0, .int .u32 0, .int .u32 0, .int .u32 0, .int .u32 0, .int .u32 0, .int .u32 0, .int .u32 0, .int .u32 0, .int .u32 0, .int .u32 0, .int .u32 0, .int .u32 0, .int .u32 0, .int .u32 0, .int .u32 0, .int .u32 0, .int .u32 0, .int .u32 0, .int .u32 0, .int .u32 0, .int .u32 0, .int .u32 0, .int .u32 0, .int .u32 0] 70)) := ((bel_alloc1 _ _).alloc (by simp) _).alloc (by simp; omega) _
    refine ⟨setCells_below (by omega) _ _ b3, Blk.others (by omega) _ _ (((Blk.new w _ _).alloc _).alloc _), Blk.others (by omega) _ _ ?_, ?_, by omega⟩
    · have h := Blk.new (w.alloc (.cells #[.int .u32 s.a, .int .u32 s.b, .int .u32 s.c, .int .u32 s.d, .int .u32 s.e, .int .u32 s.f, .int .u32 s.g, .int .u32 s.h] 54)) #[.int .u32 0, .int .u32 0, .int .u32 0, .int .u32 0, .int .u32 0, .int .u32 0, .int .u32 0, .int .u32 0] 54
      simp only [World.size_alloc] at h
      exact h.alloc _
    · have h := zeros64 ((w.alloc (.cells #[.int .u32 s.a, .int .u32 s.b, .int .u32 s.c, .int .u32 s.d, .int .u32 s.e, .int .u32 s.f, .int .u32 s.g, .int .u32 s.h] 54)).alloc (.cells #[.int .u32 0, .int .u32 0, .int .u32 0, .int .u32 0, .int .u32 0, .int .u32 0, .int .u32 0, .int .u32 0] 54))
      simp only [World.size_alloc] at h
      exact h.fill (by rw [wv_len, wv_len, hz64, List.length_replicate]))
  clear hW q1 q2 q3 HL HZZ
  have hzz := Lib.hid hz64
  clear hz64
  obtain ⟨wb, hwb⟩ : ∃ wb, w.heap.size + 1 + 1 = wb := ⟨_, rfl⟩
  rw [hwb] at ST0 ⊢
  clear hwb
  go_wp2_with fail
  go_loopw [6] (fun x wr => ∃ (k : Nat) (n : Int) (zs : List Int), k ≤ 16 ∧ n = k ∧ x = .int .i64 n ∧ Hid (zs.length = 64) ∧ Hid (∀ j, j < k → zs.getD j 0 = ws.getD j 0) ∧ Hid (Stand w wr wb s zs)) (fun x _ => 16 - (intOf x).toNat)
  case atStart => exact ⟨0, 0, zz, by omega, rfl, rfl, hzz, Lib.hid fun j hj => by omega, ST0⟩
  case round =>
    clear ST0 hzz
    obtain ⟨k, n, zs, hk, hn, rfl, hz, hv, ST⟩ := hrel
    have l1 := ST.out.2.2.2.1.lt
    by_cases hlt : k < 16
    · subst hn
      have hcc := hc.out.below ST.out.1 hb
      have hb' : b < wr.heap.size := Nat.lt_of_lt_of_le hb ST.out.1.size
      have c0 := hcc (4 * k) (by have := hl.out; omega)
      have c1 := hcc (4 * k + 1) (by have := hl.out; omega)
      have c2 := hcc (4 * k + 2) (by have := hl.out; omega)
      have c3 := hcc (4 * k + 3) (by have := hl.out; omega)
      rw [← Nat.add_assoc] at c1 c2 c3
      have e0 := ST.out.2.2.2.1.cell k
      rw [wv_get zs k (by have := hz.out; omega)] at e0
      have f0 := ST.out.2.2.2.1.frozen k
      have HW := Lib.hid (word4_sched hr.out hws.out hlt)
      generalize bs.getD (4 * k) 0 = x0 at c0 HW
      generalize bs.getD (4 * k + 1) 0 = x1 at c1 HW
      generalize bs.getD (4 * k + 2) 0 = x2 at c2 HW
      generalize bs.getD (4 * k + 3) 0 = x3 at c3 HW
      generalize zs.getD k 0 = y at e0
      clear hcc
      go_wp2_with fail
      refine (rword_any b (off + 4 * k) (cap - 4 * k) x0 x1 x2 x3 wr (by omega) hb' c0 c1 c2 c3).mono ?_
      rintro e w2 ⟨rfl, m, rfl⟩
      clear c0 c1 c2 c3
      go_wp2_with fail
      go_roundw
      case rel =>
        refine ⟨k + 1, k + 1, zs.set k (word4 x0 x1 x2 x3), by omega, by omega, rfl, Lib.hid (by rw [List.length_set]; exact hz.out), Lib.hid (set_inv (m := 0) (f := fun j => ws.getD j 0) hz.out (by omega) hv.out HW.out), Lib.hid ?_⟩
        exact (ST.out.set k (word4 x0 x1 x2 x3)).dn m
      case measure => simp [intOf]; omega
    · obtain rfl : n = 16 := by omega
      obtain rfl : k = 16 := by omega
      clear hn hlt hk
      go_wp2_with fail
      go_loopw [7] (fun x wr => ∃ (t : Nat) (n : Int) (zs : List Int), 16 ≤ t ∧ t ≤ 64 ∧ n = t ∧ x = .int .i64 n ∧ Hid (zs.length = 64) ∧ Hid (∀ j, j < t → zs.getD j 0 = ws.getD j 0) ∧ Hid (Stand w wr wb s zs)) (fun x _ => 64 - (intOf x).toNat)
      case atStart => exact ⟨16, 16, zs, by omega, by omega, rfl, rfl, hz, hv, ST⟩
      case round =>
        clear hz hv ST l1
        clear zs
        obtain ⟨t, n, zs, ht16, ht, hn, rfl, hz, hv, ST⟩ := hrel
        have l1 := ST.out.2.2.2.1.lt
        by_cases hlt : t < 64
        · subst hn
          obtain ⟨k, rfl⟩ : ∃ k, t = k + 16 := ⟨t - 16, by omega⟩
          have hK := hlt
          have e1 := ST.out.2.2.2.1.cell (k + 1)
          have e14 := ST.out.2.2.2.1.cell (k + 14)
          rw [wv_get zs _ (by have := hz.out; omega), hv.out _ (by omega)] at e1 e14
          have HN := Lib.hid (hws.out.2.2 k (by omega))
          obtain ⟨x, hx⟩ : ∃ x, ws.getD k 0 = x := ⟨_, rfl⟩
          obtain ⟨z, hzz⟩ : ∃ x, ws.getD (k + 9) 0 = x := ⟨_, rfl⟩
          have HALL : Hid (∀ w', Stand w w' wb s zs → Stand w w' wb s zs ∧ w'.cell? ⟨wb, k, none⟩ = some (.int .u32 x) ∧ w'.cell? ⟨wb, k + 9, none⟩ = some (.int .u32 z) ∧ w'.cell? ⟨wb, k + 16, none⟩ = some (.int .u32 (zs.getD (k + 16) 0)) ∧ w'.frozen? ⟨wb, k + 16, none⟩ = false) := Lib.hid fun w' h => by
            refine ⟨h, ?_, ?_, ?_, h.2.2.2.1.frozen _⟩
            · rw [h.2.2.2.1.cell, wv_get zs _ (by have := hz.out; omega), hv.out _ (by omega), hx]
            · rw [h.2.2.2.1.cell, wv_get zs _ (by have := hz.out; omega), hv.out _ (by omega), hzz]
            · rw [h.2.2.2.1.cell, wv_get zs _ (by have := hz.out; omega)]
          rw [hx, hzz] at HN
          generalize ws.getD (k + 1) 0 = y at e1 HN
          generalize ws.getD (k + 14) 0 = u at e14 HN
          obtain ⟨v, hvv⟩ : ∃ v, zs.getD (k + 16) 0 = v := ⟨_, rfl⟩
          rw [hvv] at HALL
          clear hx hzz hvv
          go_wp2_with fail
          have i0 : (k : Int) + 16 < 64 := by omega
          have i1 : (k : Int) < 64 := by omega
          obtain ⟨k9, h9⟩ : ∃ j, k + 9 = j := ⟨_, rfl⟩
          have i9 : (k9 : Int) < 64 := by omega
          have wA : IntKind.i64.wrap (k : Int) = (k : Int) := by simp [IntKind.wrap, IntKind.bits, IntKind.signed]; omega
          have wB : IntKind.i64.wrap ((k : Int) + 16 - 16) = (k : Int) := by simp [IntKind.wrap, IntKind.bits, IntKind.signed]; omega
          have wC : IntKind.i64.wrap ((k : Int) + 16 - 7) = (k9 : Int) := by rw [show ((k : Int) + 16 - 7) = (k9 : Int) by omega]; simp [IntKind.wrap, IntKind.bits, IntKind.signed]; omega
          rw [h9] at HALL
          clear h9
          obtain ⟨_, e0, e9, e16, f16⟩ := HALL.out wr ST.out
          clear HALL
          refine wp_region_quiet_tail 29 (by kernel_rfl) (by kernel_rfl) ?_
          simp only [List.take_succ_cons, List.take_zero, List.drop_succ_cons, List.drop_zero]
          have p16 : (0 : Int) ≤ (k : Int) + 16 := by omega
          have t16 : ((k : Int) + 16).toNat = k + 16 := by omega
          iterate 6 (quiet_step (fail))
          quiet_step ((go_at_call 59; exact Calls.quiet_of (rror7_c y _)))
          quiet_step (fail)
          quiet_step ((go_at_call 59; exact Calls.quiet_of (rror18_c y _)))
          iterate 11 (quiet_step (fail))
          quiet_step ((go_at_call 59; exact Calls.quiet_of (rror17_c u _)))
          quiet_step (fail)
          quiet_step ((go_at_call 59; exact Calls.quiet_of (rror19_c u _)))
          iterate 6 (quiet_step (fail))
          refine wpQuiet_nil ?_
          intro _ hw'
          obtain ⟨nq, rfl⟩ := hw'
          go_wp2_with fail
          go_roundw
          case rel =>
            refine ⟨k + 16 + 1, k + 16 + 1, zs.set (k + 16) (nextW x y z u), by omega, by omega, by omega, by simp, Lib.hid (by rw [List.length_set]; exact hz.out), Lib.hid (set_inv (m := 0) (f := fun j => ws.getD j 0) hz.out (by omega) hv.out HN.out.symm), Lib.hid ?_⟩
            exact (ST.out.set (k + 16) (nextW x y z u)).dn nq
          case measure => simp [intOf]; omega
        · obtain rfl : n = 64 := by omega
          obtain rfl : t = 64 := by omega
          clear hn hlt ht ht16
          have HE := same64 hz.out hws.out.1 hv.out
          subst HE
          clear hv l1
          go_wp2_with fail
          refine (rnumbers_any _).mono ?_; rintro e w3 ⟨rfl, hb3⟩
          have ST3 := Lib.hid (ST.out.below hb3)
          clear ST hb3
          obtain ⟨ks, hks⟩ : ∃ ks, kK = ks := ⟨_, rfl⟩
          have hkl : ks.length = 64 := by rw [← hks]; rfl
          rw [hks]
          have HKS := Lib.hid hks
          clear hks
          have q1 := there64 w3 ks hkl
          have q2 := size64 ks hkl
          have q3 := all_oneCell_toArray (wv_one ks)
          go_upto_region 13 with (refine wpList_store_mid rfl 70 _ _ rfl w3.heap.size 0 (wv ks).toArray rfl rfl q1 q2 q3 ?_)
          simp only [Act.put]
          generalize hW : World.setCells _ _ _ _ = W4
          have KB4 : Hid (Blk W4 w3.heap.size (wv ks).toArray 70) := Lib.hid (by rw [← hW]; exact (zeros64 w3).fill (by rw [wv_len, wv_len, hkl, List.length_replicate]))
          have ST4 : Hid (Stand w W4 wb s zs) := Lib.hid (by rw [← hW]; exact (ST3.out.below (bel_alloc1 _ _)).others (ST3.out.2.2.2.1.lt) ST3.out.1.size _ _)
          have HKL := Lib.hid hkl
          clear hW q1 q2 q3 ST3 hkl
          obtain ⟨kb, hkb⟩ : ∃ kb, w3.heap.size = kb := ⟨_, rfl⟩
          rw [hkb] at KB4 ⊢
          clear hkb
          have c0 : W4.cell? ⟨w.heap.size, 0, none⟩ = some (.int .u32 s.a) := ST4.out.2.1.cell 0
          have c1 : W4.cell? ⟨w.heap.size, 1, none⟩ = some (.int .u32 s.b) := ST4.out.2.1.cell 1
          have c2 : W4.cell? ⟨w.heap.size, 2, none⟩ = some (.int .u32 s.c) := ST4.out.2.1.cell 2
          have c3 : W4.cell? ⟨w.heap.size, 3, none⟩ = some (.int .u32 s.d) := ST4.out.2.1.cell 3
          have c4 : W4.cell? ⟨w.heap.size, 4, none⟩ = some (.int .u32 s.e) := ST4.out.2.1.cell 4
          have c5 : W4.cell? ⟨w.heap.size, 5, none⟩ = some (.int .u32 s.f) := ST4.out.2.1.cell 5
          have c6 : W4.cell? ⟨w.heap.size, 6, none⟩ = some (.int .u32 s.g) := ST4.out.2.1.cell 6
          have c7 : W4.cell? ⟨w.heap.size, 7, none⟩ = some (.int .u32 s.h) := ST4.out.2.1.cell 7
          have lk := KB4.out.lt
          have lw := ST4.out.2.2.2.1.lt
          have ls := ST4.out.2.1.lt
          go_quiet (fail)
          clear c0 c1 c2 c3 c4 c5 c6 c7 lk lw ls
          generalize hwq : W4.drewN nq = wq
          have KBq : Hid (Blk wq kb (wv ks).toArray 70) := Lib.hid (by rw [← hwq]; exact KB4.out)
          have STq : Hid (Stand w wq wb s zs) := Lib.hid (by rw [← hwq]; exact ST4.out.dn nq)
          clear hwq KB4 ST4
          go_wp2_with fail
          go_loopw [11, 12, 13, 14, 15, 16, 17, 18, 19] (fun x0 x1 x2 x3 x4 x5 x6 x7 i wr => ∃ (t : Nat) (n a b c d e f g h : Int), t ≤ 64 ∧ n = t ∧ x0 = .int .u32 a ∧ x1 = .int .u32 b ∧ x2 = .int .u32 c ∧ x3 = .int .u32 d ∧ x4 = .int .u32 e ∧ x5 = .int .u32 f ∧ x6 = .int .u32 g ∧ x7 = .int .u32 h ∧ i = .int .i64 n ∧ Hid (R t = ⟨a, b, c, d, e, f, g, h⟩) ∧ Hid (Stand w wr wb s zs) ∧ Hid (Blk wr kb (wv ks).toArray 70)) (fun _ _ _ _ _ _ _ _ i _ => 64 - (intOf i).toNat)
          case atStart => exact ⟨0, 0, s.a, s.b, s.c, s.d, s.e, s.f, s.g, s.h, by omega, rfl, rfl, rfl, rfl, rfl, rfl, rfl, rfl, rfl, rfl, Lib.hid hR.out.1, STq, KBq⟩
          case round =>
            clear STq KBq
            obtain ⟨t, n, a1, b1, c1, d1, e1, f1, g1, h1, ht, hn, rfl, rfl, rfl, rfl, rfl, rfl, rfl, rfl, rfl, hRt, ST, KB⟩ := hrel
            by_cases hlt : t < 64
            · subst hn
              have hkc := KB.out.cell t
              rw [wv_get ks t (by have := HKL.out; omega)] at hkc
              have hwc := ST.out.2.2.2.1.cell t
              rw [wv_get zs t (by have := hz.out; omega)] at hwc
              have hRn0 := hR.out.2 t hlt
              rw [HKS.out] at hRn0
              have hRn := Lib.hid hRn0
              clear hRn0
              generalize ks.getD t 0 = kt at hkc hRn
              generalize zs.getD t 0 = wt at hwc hRn
              have lB := KB.out.lt
              have lW := ST.out.2.2.2.1.lt
              go_wp2_with fail
              refine wp_region_quiet_lit (by kernel_rfl) (by kernel_rfl) ?_
              iterate 2 (quiet_step (fail))
              quiet_step ((go_at_call 59; exact Calls.quiet_of (rror6_c e1 _)))
              quiet_step (fail)
              quiet_step ((go_at_call 59; exact Calls.quiet_of (rror11_c e1 _)))
              iterate 2 (quiet_step (fail))
              quiet_step ((go_at_call 59; exact Calls.quiet_of (rror25_c e1 _)))
              iterate 20 (quiet_step (fail))
              refine wpQuiet_nil ?_
              intro _ hw'
              obtain ⟨nq, rfl⟩ := hw'
              go_wp2_with fail
              refine (rror2_c a1 _).mono ?_; rintro e w' ⟨rfl, m1, rfl⟩
              go_wp2_with fail
              refine (rror13_c a1 _).mono ?_; rintro e w' ⟨rfl, m2, rfl⟩
              go_wp2_with fail
              refine (rror22_c a1 _).mono ?_; rintro e w' ⟨rfl, m3, rfl⟩
              go_wp2_with fail
              go_roundw
              case rel =>
                refine ⟨t + 1, t + 1, _, _, _, _, _, _, _, _, by omega, by omega, rfl, rfl, rfl, rfl, rfl, rfl, rfl, rfl, rfl, Lib.hid (by rw [hRn.out, hRt.out]; simp only [rnd, pP, qQ, nest5]), Lib.hid ?_, Lib.hid KB.out⟩
                exact ⟨⟨ST.out.1.os, ST.out.1.tape, ST.out.1.output, ST.out.1.size, ST.out.1.block⟩, ST.out.2⟩
              case measure => simp [intOf]; omega
            · obtain rfl : n = 64 := by omega
              obtain rfl : t = 64 := by omega
              clear hn hlt ht
              have cE0 : wr.cell? ⟨w.heap.size, 0, none⟩ = some (.int .u32 s.a) := ST.out.2.1.cell 0
              have cE1 : wr.cell? ⟨w.heap.size, 1, none⟩ = some (.int .u32 s.b) := ST.out.2.1.cell 1
              have cE2 : wr.cell? ⟨w.heap.size, 2, none⟩ = some (.int .u32 s.c) := ST.out.2.1.cell 2
              have cE3 : wr.cell? ⟨w.heap.size, 3, none⟩ = some (.int .u32 s.d) := ST.out.2.1.cell 3
              have cE4 : wr.cell? ⟨w.heap.size, 4, none⟩ = some (.int .u32 s.e) := ST.out.2.1.cell 4
              have cE5 : wr.cell? ⟨w.heap.size, 5, none⟩ = some (.int .u32 s.f) := ST.out.2.1.cell 5
              have cE6 : wr.cell? ⟨w.heap.size, 6, none⟩ = some (.int .u32 s.g) := ST.out.2.1.cell 6
              have cE7 : wr.cell? ⟨w.heap.size, 7, none⟩ = some (.int .u32 s.h) := ST.out.2.1.cell 7
              have ls := ST.out.2.1.lt
              have q4 : wr.there (w.heap.size + 1) 0 (wv (addS s ⟨a1, b1, c1, d1, e1, f1, g1, h1⟩).toList).toArray.size := by have := ST.out.2.2.1.there; exact this
              have q5 : (Tryd.prog.info? 54).map (·.size) = some (wv (addS s ⟨a1, b1, c1, d1, e1, f1, g1, h1⟩).toList).toArray.size := sizeT8 _ rfl
              have q6 := all_oneCell_toArray (wv_one (addS s ⟨a1, b1, c1, d1, e1, f1, g1, h1⟩).toList)
              go_wp2_with (refine wpList_store_mid rfl 54 (.tmp 4) (.tmp 190) rfl (w.heap.size + 1) 0 (wv (addS s ⟨a1, b1, c1, d1, e1, f1, g1, h1⟩).toList).toArray rfl rfl q4 q5 q6 ?_)
              have hfin : Blk (wr.setCells (w.heap.size + 1) 0 (wv (addS s ⟨a1, b1, c1, d1, e1, f1, g1, h1⟩).toList).toArray.toList) (w.heap.size + 1) (wv (addS s ⟨a1, b1, c1, d1, e1, f1, g1, h1⟩).toList).toArray 54 := ST.out.2.2.1.fill (len8 _)
              have hbel : Below w.heap.size w (wr.setCells (w.heap.size + 1) 0 (wv (addS s ⟨a1, b1, c1, d1, e1, f1, g1, h1⟩).toList).toArray.toList) := setCells_below (by omega) _ _ ST.out.1
              have hR64 := hRt.out
              clear hRt hR hws q4 q5 q6
              generalize wr.setCells (w.heap.size + 1) 0 (wv (addS s ⟨a1, b1, c1, d1, e1, f1, g1, h1⟩).toList).toArray.toList = wf at hfin hbel ⊢
              generalize hSS : addS s ⟨a1, b1, c1, d1, e1, f1, g1, h1⟩ = SS at hfin
              refine bodyPost_ret (v := .agg (wv SS.toList).toArray) (results_cell1 (a := ⟨w.heap.size + 1, 0, none⟩) rfl _ rfl (run_loadVar_mid _ (w.heap.size + 1) 0 _ (wv SS.toList) _ hfin.range Tryd.underlying54 rfl (sizeT8' _ rfl))) rfl ⟨by rw [hR64, hSS], hbel⟩
end Go.Proofs.YtmheblpgofeafaaDoor
