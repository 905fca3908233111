/- Equal lists, in the reference: frankingref02.Same. -/
import Derived.Test.YtmheblpgofeafaaDoorDigSt
import Derived.Test.YtmheblpgofeafaaDoorDigAppX
import Derived.Test.YtmheblpgofeafaaDoorRegU
namespace Go.Proofs.YtmheblpgofeafaaDoor
open Go.RowKit
set_option linter.unusedVariables false
set_option linter.unusedSimpArgs false

theorem srcD_at {w : World} {p : Option Addr} {n cap : Nat} {fs : List Int} (h : SrcD w p n cap fs) {k : Nat} (hk : k < n) : ∃ b off, p = some ⟨b, off, none⟩ ∧ b < w.heap.size ∧ BytesAt w b (off + k * 32) ((fs.drop (32 * k)).take 32) := by
  obtain ⟨h1, h2, h3, h4 | ⟨b, off, rfl, hb, hc⟩⟩ := h
  · omega
  · exact ⟨b, off, rfl, hb, by rw [Nat.mul_comm k 32]; exact (hc.drop (32 * k)).take 32⟩
set_option maxRecDepth 100000 in
set_option maxHeartbeats 4000000 in
theorem rsame_any (p q : Option Addr) (n cap cap2 : Nat) (fs : List Int) (w : World) (hp : Hid (SrcD w p n cap fs)) (hq : Hid (SrcD w q n cap2 fs)) (hn : n ≤ 4611686018427387904) :
    Calls Tryd.prog 23 #[.slice p n cap, .slice q n cap2] w fun e w' => e = .returned (.bool true) ∧ Below w.heap.size w w' := by
  go_enter Tryd.func23, Tryd.ntmps23
  go_wp2_with fail
  go_loopw [5] (fun i wr => ∃ k : Nat, k ≤ n ∧ i = .int .i64 k ∧ Hid (Ext w wr)) (fun i _ => n - (intOf i).toNat)
  case atStart => exact ⟨0, by omega, rfl, Lib.hid (Ext.refl w)⟩
  case round =>
    obtain ⟨k, hk, rfl, RE⟩ := hrel
    by_cases hlt : k < n
    · obtain ⟨b1, o1, hp1, hb1, hc1⟩ := srcD_at (hp.out.below RE.out) hlt
      obtain ⟨b2, o2, hq1, hb2, hc2⟩ := srcD_at (hq.out.below RE.out) hlt
      obtain ⟨el, hel⟩ : ∃ el, (fs.drop (32 * k)).take 32 = el := ⟨_, rfl⟩
      have hl : el.length = 32 := by rw [← hel, List.length_take, List.length_drop]; have := hp.out.1; omega
      rw [hel] at hc1 hc2
      clear hel
      subst hp1 hq1
      have H1 := Lib.hid hc1
      have H2 := Lib.hid hc2
      have HL := Lib.hid hl
      have EQ := eqDig_same el hl
      clear hc1 hc2 hl
      go_upto_region 6 with fail
      refine wp_region_any (by kernel_rfl) ?_
      change wpAny _ _ _ _ _ _ _ (World.drew _)
      generalize hWD : wr.drew = W0
      have E0 := Lib.hid (show Ext w W0 by rw [← hWD]; exact Below.drew RE.out)
      have P0 := Lib.hid (show BytesAt W0 b1 (o1 + k * 32) el by rw [← hWD]; exact H1.out)
      have Q0 := Lib.hid (show BytesAt W0 b2 (o2 + k * 32) el by rw [← hWD]; exact H2.out)
      have l1 : b1 < W0.heap.size := by rw [← hWD]; exact hb1
      have l2 : b2 < W0.heap.size := by rw [← hWD]; exact hb2
      clear hWD
      refine region_E [8] ?_
      refine anyU_takeD (i := 0) (v := .slice (some ⟨b1, o1, none⟩) n cap) 17 rfl rfl (by kernel_rfl) (by kernel_rfl) (by kernel_rfl) (fun _ _ _ h => h) (by kernel_rfl) (Ext.stable _) (fun _ h => h) (yieldsU_val rfl (fun u hu => by rfl)) ?_
      refine anyU_takeD (i := 1) (v := .int .i64 k) 18 rfl rfl (by kernel_rfl) (by kernel_rfl) (by kernel_rfl) (fun _ _ _ h => h) (by kernel_rfl) (Ext.stable _) (fun _ h => h) (yieldsU_val rfl (fun u hu => by rfl)) ?_
      refine anyU_takeD (i := 2) (v := .pointer (some ⟨b1, o1 + k * 32, none⟩)) 19 rfl rfl (by kernel_rfl) (by kernel_rfl) (by kernel_rfl) (fun _ _ _ h => h) (by kernel_rfl) (Ext.stable _) (fun _ h => h) (yieldsU_val rfl (fun u hu => by go_simp)) ?_
      refine anyU_takeD (i := 3) (v := .agg (bv el).toArray) 20 rfl rfl (by kernel_rfl) (by kernel_rfl) (by kernel_rfl) (fun _ _ _ h => h) (by kernel_rfl) (Ext.stable _) (fun _ h => h) (yieldsU_of_C (yields_loadM rfl _ rfl b1 (o1 + k * 32) rfl el HL.out (fun u hu => P0.out.below hu l1))) ?_
      refine anyU_takeD (i := 4) (v := .slice (some ⟨b2, o2, none⟩) n cap2) 21 rfl rfl (by kernel_rfl) (by kernel_rfl) (by kernel_rfl) (fun _ _ _ h => h) (by kernel_rfl) (Ext.stable _) (fun _ h => h) (yieldsU_val rfl (fun u hu => by rfl)) ?_
      refine anyU_takeD (i := 5) (v := .int .i64 k) 22 rfl rfl (by kernel_rfl) (by kernel_rfl) (by kernel_rfl) (fun _ _ _ h => h) (by kernel_rfl) (Ext.stable _) (fun _ h => h) (yieldsU_val rfl (fun u hu => by rfl)) ?_
      refine anyU_takeD (i := 6) (v := .pointer (some ⟨b2, o2 + k * 32, none⟩)) 23 rfl rfl (by kernel_rfl) (by kernel_rfl) (by kernel_rfl) (fun _ _ _ h => h) (by kernel_rfl) (Ext.stable _) (fun _ h => h) (yieldsU_val rfl (fun u hu => by go_simp)) ?_
      refine anyU_takeD (i := 7) (v := .agg (bv el).toArray) 24 rfl rfl (by kernel_rfl) (by kernel_rfl) (by kernel_rfl) (fun _ _ _ h => h) (by kernel_rfl) (Ext.stable _) (fun _ h => h) (yieldsU_of_C (yields_loadM rfl _ rfl b2 (o2 + k * 32) rfl el HL.out (fun u hu => Q0.out.below hu l2))) ?_
      refine anyU_tail 8 [] rfl rfl (by decide) (by kernel_rfl) ?_
      intro w1 h1
      simp only [Act.put, List.filterMap_cons, List.filterMap_nil, List.getElem?_cons_succ, List.getElem?_cons_zero]
      have E1 := Lib.hid (Ext.trans E0.out h1)
      clear h1 E0 P0 Q0
      go_wp2_with fail
      go_roundw
      case rel => exact ⟨k + 1, by omega, by go_num, E1⟩
      case measure => simp [intOf]; omega
    · go_wp2_with fail
      go_ret
      exact ⟨rfl, RE.out⟩
end Go.Proofs.YtmheblpgofeafaaDoor
