/- holds: what the halves of four sectors begin with. -/
import Derived.Test.YtackklbifppfeaaDskAct
namespace Go.Proofs.Ytackklbifppfeaa
open Go.RowKit
set_option linter.unusedVariables false
set_option linter.unusedSimpArgs false

abbrev A4 (l : List Int) : Array Value := #[.int .u8 (l.getD 0 0), .int .u8 (l.getD 1 0), .int .u8 (l.getD 2 0), .int .u8 (l.getD 3 0)]
theorem a4_get (l : List Int) (k : Nat) (h : k < 4) : (A4 l)[k]? = some (.int .u8 (l.getD k 0)) := by
  obtain rfl | rfl | rfl | rfl : k = 0 ∨ k = 1 ∨ k = 2 ∨ k = 3 := by omega
  all_goals rfl
def Holds (d : Dk) (f s : List Int) : Prop := ∀ k, k < 4 → (readB d k).getD 0 0 = f.getD k 0 ∧ (readB d k).getD 64 0 = s.getD k 0 ∧ (readB d k).getD 1 0 = 0 ∧ (readB d k).getD 127 0 = 0
set_option maxRecDepth 100000 in
set_option maxHeartbeats 4000000 in
theorem holds_L (d : Dk) (f s : List Int) (w : World) (hd : Hid (DkOk w d)) (hq : Hid (d.run = true)) (hns : d.ns = 4) (hh : Hid (Holds d f s)) :
    Calls Try.prog 28 #[.agg d.c, .agg (A4 f), .agg (A4 s)] w fun e w' => e = .returned (.bool true) ∧ Below w.heap.size w w' := by
  have NS := Lib.hid hns
  clear hns
  go_enter Try.func28, Try.ntmps28
  have V3' := Blk.new w d.c 25
  have V4' := Blk.new (w.alloc (.cells d.c 25)) (A4 f) 44
  have V5' := Blk.new ((w.alloc (.cells d.c 25)).alloc (.cells (A4 f) 44)) (A4 s) 44
  rw [World.size_alloc] at V4'
  rw [World.size_alloc, World.size_alloc] at V5'
  have V3 := Lib.hid ((V3'.alloc (.cells (A4 f) 44)).alloc (.cells (A4 s) 44))
  have V4 := Lib.hid (V4'.alloc (.cells (A4 s) 44))
  have V5 := Lib.hid V5'
  have BB := Lib.hid (((bel_alloc1 w (.cells d.c 25)).alloc (by simp) (.cells (A4 f) 44)).alloc (by simp; omega) (.cells (A4 s) 44))
  have D1 := Lib.hid (hd.out.below BB.out)
  clear V3' V4' V5' hd
  go_wp2_with fail
  go_loopw [7] (fun i wr => ∃ k : Nat, k ≤ 4 ∧ i = .int .i64 k ∧ Hid (Blk wr w.heap.size d.c 25) ∧ Hid (Blk wr (w.heap.size + 1) (A4 f) 44) ∧ Hid (Blk wr (w.heap.size + 1 + 1) (A4 s) 44) ∧ Hid (DkOk wr d) ∧ Hid (Below w.heap.size w wr)) (fun i _ => 4 - (intOf i).toNat)
  case atStart => exact ⟨0, by omega, rfl, V3, V4, V5, D1, BB⟩
  case round =>
    obtain ⟨k, hk, rfl, V3x, V4x, V5x, D1x, BBx⟩ := hrel
    clear V3 V4 V5 D1 BB
    have V3 := V3x; have V4 := V4x; have V5 := V5x; have D1 := D1x; have BB := BBx
    clear V3x V4x V5x D1x BBx
    by_cases hlt : k < 4
    case pos =>
      have hkn : k < d.ns := by rw [NS.out]; exact hlt
      have cV30 := V3.out.cell 0
      have cV31 := V3.out.cell 1
      have cV32 := V3.out.cell 2
      have cV33 := V3.out.cell 3
      have lV3 := V3.out.lt
      go_wp2_with fail
      refine (read_L d k _ D1 hq hkn).mono ?_
      rintro e W11 ⟨⟨b1, o1, c1, rfl, h1, h2, h3, h4⟩, hb⟩
      replace V3 := Lib.hid (V3.out.below hb V3.out.lt)
      replace V4 := Lib.hid (V4.out.below hb V4.out.lt)
      replace V5 := Lib.hid (V5.out.below hb V5.out.lt)
      replace D1 := Lib.hid (D1.out.below hb)
      replace BB := Lib.hid (BB.out.trans ((hb).mono BB.out.size))
      clear hb
      have RD := Lib.hid (show RdOk _ b1 o1 (readB d k) from ⟨h1, h3⟩)
      have LD := Lib.hid h2
      clear h1 h2 h3 h4
      clear cV30 cV31 cV32 cV33 lV3
      obtain ⟨hh0, hh1, hh2, hh3⟩ := hh.out k hlt
      go_upto_region 5 with fail
      refine wp_region_any (by kernel_rfl) ?_
      change wpAny _ _ _ _ _ _ _ (World.drew _)
      generalize hWD : World.drew _ = W
      have V3W := Lib.hid (show Blk W w.heap.size d.c 25 by rw [← hWD]; exact V3.out)
      have V4W := Lib.hid (show Blk W (w.heap.size + 1) (A4 f) 44 by rw [← hWD]; exact V4.out)
      have V5W := Lib.hid (show Blk W (w.heap.size + 1 + 1) (A4 s) 44 by rw [← hWD]; exact V5.out)
      have D1W := Lib.hid (show DkOk W d by rw [← hWD]; exact D1.out.below ((Below.refl _ _).drew))
      have BW := Lib.hid (show Below w.heap.size w W by rw [← hWD]; exact BB.out.drew)
      have RW := Lib.hid (show RdOk W b1 o1 (readB d k) by rw [← hWD]; exact RD.out.below ((Below.refl _ _).drew))
      clear hWD V3 V4 V5 D1 BB RD
      have X0 := Lib.hid (fun u (hu : Ext W u) => show u.cell? ⟨b1, o1, none⟩ = some (.int .u8 (f.getD k 0)) from by have := (RW.out.below hu).at 0 (by rw [LD.out]; omega); rwa [hh0] at this)
      have X64 := Lib.hid (fun u (hu : Ext W u) => show u.cell? ⟨b1, o1 + 64, none⟩ = some (.int .u8 (s.getD k 0)) from by have := (RW.out.below hu).at 64 (by rw [LD.out]; omega); rwa [hh1] at this)
      have X1 := Lib.hid (fun u (hu : Ext W u) => show u.cell? ⟨b1, o1 + 1, none⟩ = some (.int .u8 0) from by have := (RW.out.below hu).at 1 (by rw [LD.out]; omega); rwa [hh2] at this)
      have X127 := Lib.hid (fun u (hu : Ext W u) => show u.cell? ⟨b1, o1 + 127, none⟩ = some (.int .u8 0) from by have := (RW.out.below hu).at 127 (by rw [LD.out]; omega); rwa [hh3] at this)
      have F4 := Lib.hid (fun u (hu : Ext W u) => show u.cell? ⟨w.heap.size + 1, k, none⟩ = some (.int .u8 (f.getD k 0)) from by rw [(V4W.out.below hu V4W.out.lt).cell k]; exact a4_get f k hlt)
      have F5 := Lib.hid (fun u (hu : Ext W u) => show u.cell? ⟨w.heap.size + 1 + 1, k, none⟩ = some (.int .u8 (s.getD k 0)) from by rw [(V5W.out.below hu V5W.out.lt).cell k]; exact a4_get s k hlt)
      obtain ⟨fk, hfk⟩ : ∃ x, f.getD k 0 = x := ⟨_, rfl⟩
      obtain ⟨sk, hsk⟩ : ∃ x, s.getD k 0 = x := ⟨_, rfl⟩
      rw [hfk] at X0 F4
      rw [hsk] at X64 F5
      clear hh0 hh1 hh2 hh3 hfk hsk
      have hCD : ∀ u, Ext W u → Ext W u := fun u hu => hu
      refine region_U (D := Ext W) (Ext W) [36] (Ext.refl W) ?_
      refine anyU_takeD (i := 0) (v := .int .i64 0) 20 rfl rfl (by kernel_rfl) (by kernel_rfl) (by kernel_rfl) (fun _ _ _ h => h) (by kernel_rfl) (Ext.stable _) hCD (yieldsU_val rfl (fun u hu => by go_simp)) ?_
      refine anyU_takeD (i := 1) (v := .bool false) 21 rfl rfl (by kernel_rfl) (by kernel_rfl) (by kernel_rfl) (fun _ _ _ h => h) (by kernel_rfl) (Ext.stable _) hCD (yieldsU_val rfl (fun u hu => by go_simp)) ?_
      refine anyU_takeD (i := 2) (v := .bool false) 22 rfl rfl (by kernel_rfl) (by kernel_rfl) (by kernel_rfl) (fun _ _ _ h => h) (by kernel_rfl) (Ext.stable _) hCD (yieldsU_val rfl (fun u hu => by go_simp)) ?_
      refine anyU_takeD (i := 3) (v := .slice (some ⟨b1, o1, none⟩) 128 c1) 23 rfl rfl (by kernel_rfl) (by kernel_rfl) (by kernel_rfl) (fun _ _ _ h => h) (by kernel_rfl) (Ext.stable _) hCD (yieldsU_val rfl (fun u hu => by go_simp)) ?_
      refine anyU_takeD (i := 4) (v := .int .i64 128) 24 rfl rfl (by kernel_rfl) (by kernel_rfl) (by kernel_rfl) (fun _ _ _ h => h) (by kernel_rfl) (Ext.stable _) hCD (yieldsU_val rfl (fun u hu => by go_simp)) ?_
      refine anyU_takeD (i := 5) (v := .bool false) 25 rfl rfl (by kernel_rfl) (by kernel_rfl) (by kernel_rfl) (fun _ _ _ h => h) (by kernel_rfl) (Ext.stable _) hCD (yieldsU_val rfl (fun u hu => by go_simp)) ?_
      simp only [Act.put, List.setIfInBounds_toArray, List.set_cons_succ, List.set_cons_zero]
      refine anyU_takeD (i := 6) (v := .bool false) 26 rfl rfl (by kernel_rfl) (by kernel_rfl) (by kernel_rfl) (fun _ _ _ h => h) (by kernel_rfl) (Ext.stable _) hCD (yieldsU_val rfl (fun u hu => by go_simp)) ?_
      refine anyU_takeD (i := 7) (v := .bool false) 27 rfl rfl (by kernel_rfl) (by kernel_rfl) (by kernel_rfl) (fun _ _ _ h => h) (by kernel_rfl) (Ext.stable _) hCD (yieldsU_val rfl (fun u hu => by go_simp)) ?_
      refine anyU_takeD (i := 8) (v := .slice (some ⟨b1, o1, none⟩) 128 c1) 28 rfl rfl (by kernel_rfl) (by kernel_rfl) (by kernel_rfl) (fun _ _ _ h => h) (by kernel_rfl) (Ext.stable _) hCD (yieldsU_val rfl (fun u hu => by go_simp)) ?_
      refine anyU_takeD (i := 9) (v := .pointer (some ⟨b1, o1, none⟩)) 29 rfl rfl (by kernel_rfl) (by kernel_rfl) (by kernel_rfl) (fun _ _ _ h => h) (by kernel_rfl) (Ext.stable _) hCD (yieldsU_val rfl (fun u hu => by go_simp)) ?_
      refine anyU_takeD (i := 10) (v := .int .u8 fk) 30 rfl rfl (by kernel_rfl) (by kernel_rfl) (by kernel_rfl) (fun _ _ _ h => h) (by kernel_rfl) (Ext.stable _) hCD (yieldsU_val rfl (fun u hu => by have c := X0.out u hu; go_simp)) ?_
      refine anyU_takeD (i := 11) (v := .int .i64 (k : Int)) 31 rfl rfl (by kernel_rfl) (by kernel_rfl) (by kernel_rfl) (fun _ _ _ h => h) (by kernel_rfl) (Ext.stable _) hCD (yieldsU_val rfl (fun u hu => by go_simp)) ?_
      simp only [Act.put, List.setIfInBounds_toArray, List.set_cons_succ, List.set_cons_zero]
      refine anyU_takeD (i := 12) (v := .pointer (some ⟨w.heap.size + 1, k, none⟩)) 32 rfl rfl (by kernel_rfl) (by kernel_rfl) (by kernel_rfl) (fun _ _ _ h => h) (by kernel_rfl) (Ext.stable _) hCD (yieldsU_val rfl (fun u hu => by go_simp)) ?_
      refine anyU_takeD (i := 13) (v := .int .u8 fk) 33 rfl rfl (by kernel_rfl) (by kernel_rfl) (by kernel_rfl) (fun _ _ _ h => h) (by kernel_rfl) (Ext.stable _) hCD (yieldsU_val rfl (fun u hu => by have c := F4.out u hu; go_simp)) ?_
      refine anyU_takeD (i := 14) (v := .bool false) 34 rfl rfl (by kernel_rfl) (by kernel_rfl) (by kernel_rfl) (fun _ _ _ h => h) (by kernel_rfl) (Ext.stable _) hCD (yieldsU_val rfl (fun u hu => by go_simp)) ?_
      refine anyU_takeD (i := 15) (v := .bool false) 35 rfl rfl (by kernel_rfl) (by kernel_rfl) (by kernel_rfl) (fun _ _ _ h => h) (by kernel_rfl) (Ext.stable _) hCD (yieldsU_val rfl (fun u hu => by go_simp)) ?_
      refine anyU_takeD (i := 16) (v := .bool false) 36 rfl rfl (by kernel_rfl) (by kernel_rfl) (by kernel_rfl) (fun _ _ _ h => h) (by kernel_rfl) (Ext.stable _) hCD (yieldsU_val rfl (fun u hu => by go_simp)) ?_
      refine anyU_takeD (i := 17) (v := .slice (some ⟨b1, o1, none⟩) 128 c1) 37 rfl rfl (by kernel_rfl) (by kernel_rfl) (by kernel_rfl) (fun _ _ _ h => h) (by kernel_rfl) (Ext.stable _) hCD (yieldsU_val rfl (fun u hu => by go_simp)) ?_
      simp only [Act.put, List.setIfInBounds_toArray, List.set_cons_succ, List.set_cons_zero]
      refine anyU_takeD (i := 18) (v := .pointer (some ⟨b1, o1 + 64, none⟩)) 38 rfl rfl (by kernel_rfl) (by kernel_rfl) (by kernel_rfl) (fun _ _ _ h => h) (by kernel_rfl) (Ext.stable _) hCD (yieldsU_val rfl (fun u hu => by go_simp)) ?_
      refine anyU_takeD (i := 19) (v := .int .u8 sk) 39 rfl rfl (by kernel_rfl) (by kernel_rfl) (by kernel_rfl) (fun _ _ _ h => h) (by kernel_rfl) (Ext.stable _) hCD (yieldsU_val rfl (fun u hu => by have c := X64.out u hu; go_simp)) ?_
      refine anyU_takeD (i := 20) (v := .int .i64 (k : Int)) 40 rfl rfl (by kernel_rfl) (by kernel_rfl) (by kernel_rfl) (fun _ _ _ h => h) (by kernel_rfl) (Ext.stable _) hCD (yieldsU_val rfl (fun u hu => by go_simp)) ?_
      refine anyU_takeD (i := 21) (v := .pointer (some ⟨w.heap.size + 1 + 1, k, none⟩)) 41 rfl rfl (by kernel_rfl) (by kernel_rfl) (by kernel_rfl) (fun _ _ _ h => h) (by kernel_rfl) (Ext.stable _) hCD (yieldsU_val rfl (fun u hu => by go_simp)) ?_
      refine anyU_takeD (i := 22) (v := .int .u8 sk) 42 rfl rfl (by kernel_rfl) (by kernel_rfl) (by kernel_rfl) (fun _ _ _ h => h) (by kernel_rfl) (Ext.stable _) hCD (yieldsU_val rfl (fun u hu => by have c := F5.out u hu; go_simp)) ?_
      refine anyU_takeD (i := 23) (v := .bool false) 43 rfl rfl (by kernel_rfl) (by kernel_rfl) (by kernel_rfl) (fun _ _ _ h => h) (by kernel_rfl) (Ext.stable _) hCD (yieldsU_val rfl (fun u hu => by go_simp)) ?_
      simp only [Act.put, List.setIfInBounds_toArray, List.set_cons_succ, List.set_cons_zero]
      refine anyU_takeD (i := 24) (v := .bool false) 44 rfl rfl (by kernel_rfl) (by kernel_rfl) (by kernel_rfl) (fun _ _ _ h => h) (by kernel_rfl) (Ext.stable _) hCD (yieldsU_val rfl (fun u hu => by go_simp)) ?_
      refine anyU_takeD (i := 25) (v := .bool false) 45 rfl rfl (by kernel_rfl) (by kernel_rfl) (by kernel_rfl) (fun _ _ _ h => h) (by kernel_rfl) (Ext.stable _) hCD (yieldsU_val rfl (fun u hu => by go_simp)) ?_
      refine anyU_takeD (i := 26) (v := .slice (some ⟨b1, o1, none⟩) 128 c1) 46 rfl rfl (by kernel_rfl) (by kernel_rfl) (by kernel_rfl) (fun _ _ _ h => h) (by kernel_rfl) (Ext.stable _) hCD (yieldsU_val rfl (fun u hu => by go_simp)) ?_
      refine anyU_takeD (i := 27) (v := .pointer (some ⟨b1, o1 + 1, none⟩)) 47 rfl rfl (by kernel_rfl) (by kernel_rfl) (by kernel_rfl) (fun _ _ _ h => h) (by kernel_rfl) (Ext.stable _) hCD (yieldsU_val rfl (fun u hu => by go_simp)) ?_
      refine anyU_takeD (i := 28) (v := .int .u8 0) 48 rfl rfl (by kernel_rfl) (by kernel_rfl) (by kernel_rfl) (fun _ _ _ h => h) (by kernel_rfl) (Ext.stable _) hCD (yieldsU_val rfl (fun u hu => by have c := X1.out u hu; go_simp)) ?_
      refine anyU_takeD (i := 29) (v := .bool false) 49 rfl rfl (by kernel_rfl) (by kernel_rfl) (by kernel_rfl) (fun _ _ _ h => h) (by kernel_rfl) (Ext.stable _) hCD (yieldsU_val rfl (fun u hu => by go_simp)) ?_
      simp only [Act.put, List.setIfInBounds_toArray, List.set_cons_succ, List.set_cons_zero]
      refine anyU_takeD (i := 30) (v := .bool false) 50 rfl rfl (by kernel_rfl) (by kernel_rfl) (by kernel_rfl) (fun _ _ _ h => h) (by kernel_rfl) (Ext.stable _) hCD (yieldsU_val rfl (fun u hu => by go_simp)) ?_
      refine anyU_takeD (i := 31) (v := .bool false) 51 rfl rfl (by kernel_rfl) (by kernel_rfl) (by kernel_rfl) (fun _ _ _ h => h) (by kernel_rfl) (Ext.stable _) hCD (yieldsU_val rfl (fun u hu => by go_simp)) ?_
      refine anyU_takeD (i := 32) (v := .slice (some ⟨b1, o1, none⟩) 128 c1) 52 rfl rfl (by kernel_rfl) (by kernel_rfl) (by kernel_rfl) (fun _ _ _ h => h) (by kernel_rfl) (Ext.stable _) hCD (yieldsU_val rfl (fun u hu => by go_simp)) ?_
      refine anyU_takeD (i := 33) (v := .pointer (some ⟨b1, o1 + 127, none⟩)) 53 rfl rfl (by kernel_rfl) (by kernel_rfl) (by kernel_rfl) (fun _ _ _ h => h) (by kernel_rfl) (Ext.stable _) hCD (yieldsU_val rfl (fun u hu => by go_simp)) ?_
      refine anyU_takeD (i := 34) (v := .int .u8 0) 54 rfl rfl (by kernel_rfl) (by kernel_rfl) (by kernel_rfl) (fun _ _ _ h => h) (by kernel_rfl) (Ext.stable _) hCD (yieldsU_val rfl (fun u hu => by have c := X127.out u hu; go_simp)) ?_
      refine anyU_takeD (i := 35) (v := .bool false) 55 rfl rfl (by kernel_rfl) (by kernel_rfl) (by kernel_rfl) (fun _ _ _ h => h) (by kernel_rfl) (Ext.stable _) hCD (yieldsU_val rfl (fun u hu => by go_simp)) ?_
      simp only [Act.put, List.setIfInBounds_toArray, List.set_cons_succ, List.set_cons_zero]
      refine anyU_tail 36 [] rfl rfl (by decide) (by kernel_rfl) ?_
      intro u2 hu2
      simp only [Act.put, List.filterMap_cons, List.filterMap_nil, List.getElem?_cons_succ, List.getElem?_cons_zero]
      have V3 := Lib.hid (V3W.out.below hu2 V3W.out.lt)
      have V4 := Lib.hid (V4W.out.below hu2 V4W.out.lt)
      have V5 := Lib.hid (V5W.out.below hu2 V5W.out.lt)
      have D1 := Lib.hid (D1W.out.below hu2)
      have BB := Lib.hid (BW.out.trans (Below.mono hu2 BW.out.size))
      clear hu2
      go_wp2_with fail
      refine ⟨⟨k + 1, by omega, by go_num, V3, V4, V5, D1, BB⟩, ?_⟩
      simp only [intOf]; omega
    case neg =>
      obtain rfl : k = 4 := by omega
      go_wp2_with fail
      go_ret
      exact ⟨rfl, BB.out⟩
end Go.Proofs.Ytackklbifppfeaa
