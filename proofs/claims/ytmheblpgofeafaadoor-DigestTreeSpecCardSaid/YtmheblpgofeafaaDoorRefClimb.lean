/- The digest to which a path leads, in the reference: frankingref02.climb, Climb. -/
import Derived.Test.YtmheblpgofeafaaDoorRefTree
import Derived.Test.YtmheblpgofeafaaDoorDigSt
import Derived.Test.YtmheblpgofeafaaDoorRegU
namespace Go.Proofs.YtmheblpgofeafaaDoor
open Go.RowKit
set_option linter.unusedVariables false
set_option linter.unusedSimpArgs false

set_option maxRecDepth 100000 in
set_option maxHeartbeats 2000000 in
theorem rclimb_one (at' : Nat) (p : Option Addr) (cap : Nat) (dd ds : List Int) (w : World) (hl : Hid (dd.length = 32)) (rd : Hid (∀ z ∈ dd, 0 ≤ z ∧ z ≤ 255)) (hds : Hid (IsTag (strL sLeaf) dd ds)) :
    Calls Tryd.prog 51 #[.agg (bv dd).toArray, .int .i64 at', .int .i64 1, .slice p 0 cap] w fun e w' => e = .returned (.agg (bv ds).toArray) ∧ Below w.heap.size w w' := by
  go_enter Tryd.func51, Tryd.ntmps51
  go_upto_region 1 with (fail)
  generalize hW : World.alloc _ _ = W1
  have D1 := Lib.hid (show Dg W1 w.heap.size dd by rw [← hW]; exact (Dg.box w hl.out).alloc _)
  have T1 := Lib.hid (show Dg W1 (w.heap.size + 1) (List.replicate 32 0) by rw [← hW]; have := Dg.new (w.alloc (.cells (bv dd).toArray 26)); rw [alloc_sz] at this; exact this)
  have B1 := Lib.hid (show Below w.heap.size w W1 by rw [← hW]; exact ((bel_alloc1 w _).alloc (by simp) _))
  clear hW
  obtain ⟨db, hdb⟩ : ∃ b, w.heap.size = b := ⟨_, rfl⟩
  have hB : w.heap.size ≤ db := by omega
  have B2 : Hid (Below w.heap.size w W1) := B1
  rw [hdb] at T1 D1 ⊢
  clear B1 hdb
  obtain ⟨tb, htb⟩ : ∃ b, db + 1 = b := ⟨_, rfl⟩
  have hTB : w.heap.size ≤ tb := by omega
  rw [htb] at T1 ⊢
  clear htb
  obtain ⟨ts, hts, hss⟩ := hds.out
  have HDS := Lib.hid hds.out.len
  go_wp2_with fail
  refine (rtagged_any sLeaf (some ⟨db, 0, none⟩) 32 32 dd W1 (Lib.hid (.inl ⟨hl.out.symm, .inr ⟨db, 0, rfl, D1.out.lt, D1.out.bytes⟩⟩)) rd (by decide) (by decide) ts ds (Lib.hid hts) (Lib.hid hss)).mono ?_
  rintro e w6 ⟨rfl, hb6⟩
  have T6 := Lib.hid (T1.out.bel hb6)
  have B6 := Lib.hid (B2.out.trans (hb6.mono B2.out.size))
  clear hb6 T1 B2 hts hss
  go_wp2_with (refine list_storeD rfl (.tmp 8) (.tmp 14) rfl tb rfl ds rfl HDS.out _ T6.out ?_)
  intro w9 d9 k9
  have B9 := Lib.hid (B6.out.trans (k9.below hTB))
  clear k9
  go_wp2_with fail
  refine bodyPost_ret (v := .agg (bv ds).toArray) (results_cell1 (a := ⟨tb, 0, none⟩) rfl _ rfl (run_loadVar_mid _ tb 0 _ (bv ds) _ d9.1.range Tryd.underlying26 rfl (size32' ds d9.2))) rfl ⟨rfl, ?_⟩
  exact B9.out
set_option maxRecDepth 100000 in
set_option maxHeartbeats 4000000 in
theorem rclimb_left (at' n k c b off cap : Nat) (ps dd l ds : List Int) (w : World) (hz : Hid (BytesAt w b off ps)) (hb : b < w.heap.size) (hps : Hid (ps.length = 32 * (c + 1))) (rp : Hid (∀ z ∈ ps, 0 ≤ z ∧ z ≤ 255)) (hl : Hid (dd.length = 32)) (hn : 1 < n) (hn2 : n ≤ 1099511627776) (hc : c + 1 ≤ cap) (hm : cap ≤ 9223372036854775807) (hc2 : c ≤ 4611686018427387904) (hkn : Hid (k = spN n)) (hk0 : 0 < k) (hk1 : k < n)
    (hdl : Hid (l.length = 32)) (hrl : Hid (∀ z ∈ l, 0 ≤ z ∧ z ≤ 255)) (hak : at' < k) (hds : Hid (IsTag (strL sNode) (l ++ ps.drop (32 * c)) ds))
    (IA : ∀ u : World, Below w.heap.size w u → Calls Tryd.prog 51 #[.agg (bv dd).toArray, .int .i64 at', .int .i64 k, .slice (some ⟨b, off, none⟩) c cap] u fun e w' => e = .returned (.agg (bv l).toArray) ∧ Below u.heap.size u w') :
    Calls Tryd.prog 51 #[.agg (bv dd).toArray, .int .i64 at', .int .i64 n, .slice (some ⟨b, off, none⟩) ((c + 1 : Nat)) cap] w fun e w' => e = .returned (.agg (bv ds).toArray) ∧ Below w.heap.size w w' := by
  have t1 : ¬ ((n : Int) = 1) := by omega
  have hpl : (ps.drop (32 * c)).length = 32 := by rw [List.length_drop]; have := hps.out; omega
  obtain ⟨el, hel⟩ : ∃ el, ps.drop (32 * c) = el := ⟨_, rfl⟩
  have HEL : Hid (el.length = 32) := Lib.hid (by rw [← hel]; exact hpl)
  have HER : Hid (∀ z ∈ el, 0 ≤ z ∧ z ≤ 255) := Lib.hid (by rw [← hel]; exact fun z hz => rp.out z (List.mem_of_mem_drop hz))
  have HEB : Hid (BytesAt w b (off + c * 32) el) := Lib.hid (by rw [← hel, Nat.mul_comm c 32]; exact hz.out.drop (32 * c))
  rw [hel] at hds
  clear hel hpl
  have HDS := Lib.hid hds.out.len
  go_enter Tryd.func51, Tryd.ntmps51
  go_upto_region 1 with (fail)
  generalize hW : World.alloc _ _ = W1
  have D1 := Lib.hid (show Dg W1 w.heap.size dd by rw [← hW]; exact (Dg.box w hl.out).alloc _)
  have T1 := Lib.hid (show Dg W1 (w.heap.size + 1) (List.replicate 32 0) by rw [← hW]; have := Dg.new (w.alloc (.cells (bv dd).toArray 26)); rw [alloc_sz] at this; exact this)
  have B1 := Lib.hid (show Below w.heap.size w W1 by rw [← hW]; exact ((bel_alloc1 w _).alloc (by simp) _))
  clear hW
  obtain ⟨db, hdb⟩ : ∃ b, w.heap.size = b := ⟨_, rfl⟩
  have hB : w.heap.size ≤ db := by omega
  have B2 : Hid (Below w.heap.size w W1) := B1
  rw [hdb] at T1 D1 ⊢
  clear B1 hdb
  obtain ⟨tb, htb⟩ : ∃ b, db + 1 = b := ⟨_, rfl⟩
  have hTB : w.heap.size ≤ tb := by omega
  rw [htb] at T1 ⊢
  clear htb
  go_wp2_with fail
  refine (rhalf_any n W1 hn (by omega)).mono ?_; rintro e w' ⟨rfl, rfl⟩
  rw [← hkn.out]
  have E1 := Lib.hid (HEB.out.below B2.out hb)
  have i8 : ((c : Int) + 1) - 1 = (c : Int) := by omega
  go_wp2_with (first
    | (refine list_loadM (by rfl) (.tmp 21) rfl b (off + c * 32) rfl el E1.out HEL.out ?_)
    | (refine list_storeD rfl (.tmp 10) (.tmp 22) rfl w'.heap.size rfl el rfl HEL.out _ (Dg.new w') ?_))
  intro w3 d3 k3
  have K3 : Below w'.heap.size w' w3 := (bel_alloc1 w' _).trans (k3.below (Nat.le_refl _))
  have L3 := Lib.hid d3
  have D3 := Lib.hid (D1.out.bel K3)
  have T3 := Lib.hid (T1.out.bel K3)
  have B3 := Lib.hid (B2.out.trans (K3.mono B2.out.size))
  clear K3 d3 k3 D1 T1 B2 E1
  obtain ⟨lb, hlb⟩ : ∃ b, w'.heap.size = b := ⟨_, rfl⟩
  rw [hlb] at L3 ⊢
  clear hlb
  go_upto_region 6 with fail
  have s0 : (c : Int) ≤ (cap : Int) := by omega
  have s1 : (c : Int) < ((c : Int) + 1) := by omega
  have s3 : (c : Int) ≤ ((c : Int) + 1) := by omega
  refine wp_region_any (by kernel_rfl) ?_
  change wpAny _ _ _ _ _ _ _ (World.drew _)
  generalize hWD : w3.drew = WD
  have L4 := Lib.hid (show Dg WD lb el by rw [← hWD]; exact L3.out)
  have D4 := Lib.hid (show Dg WD db dd by rw [← hWD]; exact D3.out)
  have T4 := Lib.hid (show Dg WD tb (List.replicate 32 0) by rw [← hWD]; exact T3.out)
  have B4 := Lib.hid (show Below w.heap.size w WD by rw [← hWD]; exact B3.out.drew)
  clear hWD L3 D3 T3 B3
  refine region_E [11] ?_
  refine anyU_takeD (i := 0) (v := .agg (bv dd).toArray) 26 rfl rfl (by kernel_rfl) (by kernel_rfl) (by kernel_rfl) (fun _ _ _ h => h) (by kernel_rfl) (Ext.stable _) (fun _ h => h) (yieldsU_of_C (yields_loadD rfl _ rfl db rfl dd hl.out (fun u hu => D4.out.bel hu))) ?_
  refine anyU_takeD (i := 1) (v := .int .i64 at') 27 rfl rfl (by kernel_rfl) (by kernel_rfl) (by kernel_rfl) (fun _ _ _ h => h) (by kernel_rfl) (Ext.stable _) (fun _ h => h) (yieldsU_val rfl (fun u hu => by rfl)) ?_
  refine anyU_takeD (i := 2) (v := .int .i64 k) 28 rfl rfl (by kernel_rfl) (by kernel_rfl) (by kernel_rfl) (fun _ _ _ h => h) (by kernel_rfl) (Ext.stable _) (fun _ h => h) (yieldsU_val rfl (fun u hu => by rfl)) ?_
  refine anyU_takeD (i := 3) (v := .slice (some ⟨b, off, none⟩) ((c + 1 : Nat)) cap) 29 rfl rfl (by kernel_rfl) (by kernel_rfl) (by kernel_rfl) (fun _ _ _ h => h) (by kernel_rfl) (Ext.stable _) (fun _ h => h) (yieldsU_val rfl (fun u hu => by rfl)) ?_
  refine anyU_takeD (i := 4) (v := .slice (some ⟨b, off, none⟩) ((c + 1 : Nat)) cap) 30 rfl rfl (by kernel_rfl) (by kernel_rfl) (by kernel_rfl) (fun _ _ _ h => h) (by kernel_rfl) (Ext.stable _) (fun _ h => h) (yieldsU_val rfl (fun u hu => by rfl)) ?_
  (try simp only [Act.put, List.setIfInBounds_toArray, List.set_cons_succ, List.set_cons_zero])
  refine anyU_takeD (i := 5) (v := .int .i64 ((c : Int) + 1)) 31 rfl rfl (by kernel_rfl) (by kernel_rfl) (by kernel_rfl) (fun _ _ _ h => h) (by kernel_rfl) (Ext.stable _) (fun _ h => h) (yieldsU_val rfl (fun u hu => by go_simp)) ?_
  refine anyU_takeD (i := 6) (v := .int .i64 (c : Int)) 32 rfl rfl (by kernel_rfl) (by kernel_rfl) (by kernel_rfl) (fun _ _ _ h => h) (by kernel_rfl) (Ext.stable _) (fun _ h => h) (yieldsU_val rfl (fun u hu => by go_simp; rw [IntKind.wrap_i64]; omega)) ?_
  refine anyU_takeD (i := 7) (v := .slice (some ⟨b, off, none⟩) c cap) 33 rfl rfl (by kernel_rfl) (by kernel_rfl) (by kernel_rfl) (fun _ _ _ h => h) (by kernel_rfl) (Ext.stable _) (fun _ h => h) (yieldsU_val rfl (fun u hu => by go_simp)) ?_
  (try simp only [Act.put, List.setIfInBounds_toArray, List.set_cons_succ, List.set_cons_zero])
  refine anyU_takeD (i := 8) (v := .agg (bv l).toArray) 34 rfl rfl (by kernel_rfl) (by kernel_rfl) (by kernel_rfl) (fun _ _ _ h => h) (by kernel_rfl) (Ext.stable _) (fun _ h => h) (yieldsU_call rfl 51 _ _ rfl #[.agg (bv dd).toArray, .int .i64 at', .int .i64 k, .slice (some ⟨b, off, none⟩) c cap] (by simp [Act.eval, Act.put]) (fun u => by go_simp) (fun u hu => (IA u (B4.out.trans (hu.mono B4.out.size))))) ?_
  refine anyU_takeD (i := 9) (v := .agg (bv el).toArray) 35 rfl rfl (by kernel_rfl) (by kernel_rfl) (by kernel_rfl) (fun _ _ _ h => h) (by kernel_rfl) (Ext.stable _) (fun _ h => h) (yieldsU_of_C (yields_loadD rfl _ rfl lb rfl el HEL.out (fun u hu => L4.out.bel hu))) ?_
  refine anyU_takeD (i := 10) (v := .agg (bv ds).toArray) 36 rfl rfl (by kernel_rfl) (by kernel_rfl) (by kernel_rfl) (fun _ _ _ h => h) (by kernel_rfl) (Ext.stable _) (fun _ h => h) (yieldsU_call rfl 45 _ _ rfl #[.agg (bv l).toArray, .agg (bv el).toArray] (by simp [Act.eval, Act.put]) (fun u => by go_simp) (fun u hu => rnode_any l el ds u hdl HEL hrl HER hds)) ?_
  (try simp only [Act.put, List.setIfInBounds_toArray, List.set_cons_succ, List.set_cons_zero])
  refine anyU_tail 11 [] rfl rfl (by decide) (by kernel_rfl) ?_
  intro w6 h6
  simp only [Act.put, List.filterMap_cons, List.filterMap_nil, List.getElem?_cons_succ, List.getElem?_cons_zero]
  refine list_storeD rfl (.tmp 8) (.tmp 36) rfl tb rfl ds rfl HDS.out _ (T4.out.bel h6) ?_
  intro w9 d9 k9
  have B9 := Lib.hid (show Below w.heap.size w w9 from (B4.out.trans (Below.mono h6 B4.out.size)).trans (k9.below hTB))
  clear k9 h6
  (try simp only [Act.put])
  go_wp2_with fail
  refine bodyPost_ret (v := .agg (bv ds).toArray) (results_cell1 (a := ⟨tb, 0, none⟩) rfl _ rfl (run_loadVar_mid _ tb 0 _ (bv ds) _ d9.1.range Tryd.underlying26 rfl (size32' ds d9.2))) rfl ⟨rfl, ?_⟩
  exact B9.out
set_option maxRecDepth 100000 in
set_option maxHeartbeats 4000000 in
theorem rclimb_right (at' n k c b off cap : Nat) (ps dd l ds : List Int) (w : World) (hz : Hid (BytesAt w b off ps)) (hb : b < w.heap.size) (hps : Hid (ps.length = 32 * (c + 1))) (rp : Hid (∀ z ∈ ps, 0 ≤ z ∧ z ≤ 255)) (hl : Hid (dd.length = 32)) (hn : 1 < n) (hn2 : n ≤ 1099511627776) (hc : c + 1 ≤ cap) (hm : cap ≤ 9223372036854775807) (hc2 : c ≤ 4611686018427387904) (hkn : Hid (k = spN n)) (hk0 : 0 < k) (hk1 : k < n)
    (hdl : Hid (l.length = 32)) (hrl : Hid (∀ z ∈ l, 0 ≤ z ∧ z ≤ 255)) (hak : k ≤ at') (han : at' < n) (hds : Hid (IsTag (strL sNode) (ps.drop (32 * c) ++ l) ds))
    (IA : ∀ u : World, Below w.heap.size w u → Calls Tryd.prog 51 #[.agg (bv dd).toArray, .int .i64 (at' - k : Nat), .int .i64 (n - k : Nat), .slice (some ⟨b, off, none⟩) c cap] u fun e w' => e = .returned (.agg (bv l).toArray) ∧ Below u.heap.size u w') :
    Calls Tryd.prog 51 #[.agg (bv dd).toArray, .int .i64 at', .int .i64 n, .slice (some ⟨b, off, none⟩) ((c + 1 : Nat)) cap] w fun e w' => e = .returned (.agg (bv ds).toArray) ∧ Below w.heap.size w w' := by
  have t1 : ¬ ((n : Int) = 1) := by omega
  have hpl : (ps.drop (32 * c)).length = 32 := by rw [List.length_drop]; have := hps.out; omega
  obtain ⟨el, hel⟩ : ∃ el, ps.drop (32 * c) = el := ⟨_, rfl⟩
  have HEL : Hid (el.length = 32) := Lib.hid (by rw [← hel]; exact hpl)
  have HER : Hid (∀ z ∈ el, 0 ≤ z ∧ z ≤ 255) := Lib.hid (by rw [← hel]; exact fun z hz => rp.out z (List.mem_of_mem_drop hz))
  have HEB : Hid (BytesAt w b (off + c * 32) el) := Lib.hid (by rw [← hel, Nat.mul_comm c 32]; exact hz.out.drop (32 * c))
  rw [hel] at hds
  clear hel hpl
  have HDS := Lib.hid hds.out.len
  go_enter Tryd.func51, Tryd.ntmps51
  go_upto_region 1 with (fail)
  generalize hW : World.alloc _ _ = W1
  have D1 := Lib.hid (show Dg W1 w.heap.size dd by rw [← hW]; exact (Dg.box w hl.out).alloc _)
  have T1 := Lib.hid (show Dg W1 (w.heap.size + 1) (List.replicate 32 0) by rw [← hW]; have := Dg.new (w.alloc (.cells (bv dd).toArray 26)); rw [alloc_sz] at this; exact this)
  have B1 := Lib.hid (show Below w.heap.size w W1 by rw [← hW]; exact ((bel_alloc1 w _).alloc (by simp) _))
  clear hW
  obtain ⟨db, hdb⟩ : ∃ b, w.heap.size = b := ⟨_, rfl⟩
  have hB : w.heap.size ≤ db := by omega
  have B2 : Hid (Below w.heap.size w W1) := B1
  rw [hdb] at T1 D1 ⊢
  clear B1 hdb
  obtain ⟨tb, htb⟩ : ∃ b, db + 1 = b := ⟨_, rfl⟩
  have hTB : w.heap.size ≤ tb := by omega
  rw [htb] at T1 ⊢
  clear htb
  go_wp2_with fail
  refine (rhalf_any n W1 hn (by omega)).mono ?_; rintro e w' ⟨rfl, rfl⟩
  rw [← hkn.out]
  have E1 := Lib.hid (HEB.out.below B2.out hb)
  have i8 : ((c : Int) + 1) - 1 = (c : Int) := by omega
  go_wp2_with (first
    | (refine list_loadM (by rfl) (.tmp 21) rfl b (off + c * 32) rfl el E1.out HEL.out ?_)
    | (refine list_storeD rfl (.tmp 10) (.tmp 22) rfl w'.heap.size rfl el rfl HEL.out _ (Dg.new w') ?_))
  intro w3 d3 k3
  have K3 : Below w'.heap.size w' w3 := (bel_alloc1 w' _).trans (k3.below (Nat.le_refl _))
  have L3 := Lib.hid d3
  have D3 := Lib.hid (D1.out.bel K3)
  have T3 := Lib.hid (T1.out.bel K3)
  have B3 := Lib.hid (B2.out.trans (K3.mono B2.out.size))
  clear K3 d3 k3 D1 T1 B2 E1
  obtain ⟨lb, hlb⟩ : ∃ b, w'.heap.size = b := ⟨_, rfl⟩
  rw [hlb] at L3 ⊢
  clear hlb
  go_upto_region 7 with fail
  have s0 : (c : Int) ≤ (cap : Int) := by omega
  have s1 : (c : Int) < ((c : Int) + 1) := by omega
  have s3 : (c : Int) ≤ ((c : Int) + 1) := by omega
  have wA : IntKind.i64.wrap ((at' : Int) - (k : Int)) = ((at' - k : Nat) : Int) := by rw [IntKind.wrap_i64]; omega
  have wN : IntKind.i64.wrap ((n : Int) - (k : Int)) = ((n - k : Nat) : Int) := by rw [IntKind.wrap_i64]; omega
  refine wp_region_any (by kernel_rfl) ?_
  change wpAny _ _ _ _ _ _ _ (World.drew _)
  generalize hWD : w3.drew = WD
  have L4 := Lib.hid (show Dg WD lb el by rw [← hWD]; exact L3.out)
  have D4 := Lib.hid (show Dg WD db dd by rw [← hWD]; exact D3.out)
  have T4 := Lib.hid (show Dg WD tb (List.replicate 32 0) by rw [← hWD]; exact T3.out)
  have B4 := Lib.hid (show Below w.heap.size w WD by rw [← hWD]; exact B3.out.drew)
  clear hWD L3 D3 T3 B3
  refine region_E [15] ?_
  refine anyU_takeD (i := 0) (v := .agg (bv el).toArray) 37 rfl rfl (by kernel_rfl) (by kernel_rfl) (by kernel_rfl) (fun _ _ _ h => h) (by kernel_rfl) (Ext.stable _) (fun _ h => h) (yieldsU_of_C (yields_loadD rfl _ rfl lb rfl el HEL.out (fun u hu => L4.out.bel hu))) ?_
  refine anyU_takeD (i := 1) (v := .agg (bv dd).toArray) 38 rfl rfl (by kernel_rfl) (by kernel_rfl) (by kernel_rfl) (fun _ _ _ h => h) (by kernel_rfl) (Ext.stable _) (fun _ h => h) (yieldsU_of_C (yields_loadD rfl _ rfl db rfl dd hl.out (fun u hu => D4.out.bel hu))) ?_
  refine anyU_takeD (i := 2) (v := .int .i64 at') 39 rfl rfl (by kernel_rfl) (by kernel_rfl) (by kernel_rfl) (fun _ _ _ h => h) (by kernel_rfl) (Ext.stable _) (fun _ h => h) (yieldsU_val rfl (fun u hu => by rfl)) ?_
  refine anyU_takeD (i := 3) (v := .int .i64 k) 40 rfl rfl (by kernel_rfl) (by kernel_rfl) (by kernel_rfl) (fun _ _ _ h => h) (by kernel_rfl) (Ext.stable _) (fun _ h => h) (yieldsU_val rfl (fun u hu => by rfl)) ?_
  refine anyU_takeD (i := 4) (v := .int .i64 (at' - k : Nat)) 41 rfl rfl (by kernel_rfl) (by kernel_rfl) (by kernel_rfl) (fun _ _ _ h => h) (by kernel_rfl) (Ext.stable _) (fun _ h => h) (yieldsU_val rfl (fun u hu => by go_simp)) ?_
  (try simp only [Act.put, List.setIfInBounds_toArray, List.set_cons_succ, List.set_cons_zero])
  refine anyU_takeD (i := 5) (v := .int .i64 n) 42 rfl rfl (by kernel_rfl) (by kernel_rfl) (by kernel_rfl) (fun _ _ _ h => h) (by kernel_rfl) (Ext.stable _) (fun _ h => h) (yieldsU_val rfl (fun u hu => by rfl)) ?_
  refine anyU_takeD (i := 6) (v := .int .i64 k) 43 rfl rfl (by kernel_rfl) (by kernel_rfl) (by kernel_rfl) (fun _ _ _ h => h) (by kernel_rfl) (Ext.stable _) (fun _ h => h) (yieldsU_val rfl (fun u hu => by rfl)) ?_
  refine anyU_takeD (i := 7) (v := .int .i64 (n - k : Nat)) 44 rfl rfl (by kernel_rfl) (by kernel_rfl) (by kernel_rfl) (fun _ _ _ h => h) (by kernel_rfl) (Ext.stable _) (fun _ h => h) (yieldsU_val rfl (fun u hu => by go_simp)) ?_
  refine anyU_takeD (i := 8) (v := .slice (some ⟨b, off, none⟩) ((c + 1 : Nat)) cap) 45 rfl rfl (by kernel_rfl) (by kernel_rfl) (by kernel_rfl) (fun _ _ _ h => h) (by kernel_rfl) (Ext.stable _) (fun _ h => h) (yieldsU_val rfl (fun u hu => by rfl)) ?_
  refine anyU_takeD (i := 9) (v := .slice (some ⟨b, off, none⟩) ((c + 1 : Nat)) cap) 46 rfl rfl (by kernel_rfl) (by kernel_rfl) (by kernel_rfl) (fun _ _ _ h => h) (by kernel_rfl) (Ext.stable _) (fun _ h => h) (yieldsU_val rfl (fun u hu => by rfl)) ?_
  (try simp only [Act.put, List.setIfInBounds_toArray, List.set_cons_succ, List.set_cons_zero])
  refine anyU_takeD (i := 10) (v := .int .i64 ((c : Int) + 1)) 47 rfl rfl (by kernel_rfl) (by kernel_rfl) (by kernel_rfl) (fun _ _ _ h => h) (by kernel_rfl) (Ext.stable _) (fun _ h => h) (yieldsU_val rfl (fun u hu => by go_simp)) ?_
  refine anyU_takeD (i := 11) (v := .int .i64 (c : Int)) 48 rfl rfl (by kernel_rfl) (by kernel_rfl) (by kernel_rfl) (fun _ _ _ h => h) (by kernel_rfl) (Ext.stable _) (fun _ h => h) (yieldsU_val rfl (fun u hu => by go_simp; rw [IntKind.wrap_i64]; omega)) ?_
  refine anyU_takeD (i := 12) (v := .slice (some ⟨b, off, none⟩) c cap) 49 rfl rfl (by kernel_rfl) (by kernel_rfl) (by kernel_rfl) (fun _ _ _ h => h) (by kernel_rfl) (Ext.stable _) (fun _ h => h) (yieldsU_val rfl (fun u hu => by go_simp)) ?_
  (try simp only [Act.put, List.setIfInBounds_toArray, List.set_cons_succ, List.set_cons_zero])
  refine anyU_takeD (i := 13) (v := .agg (bv l).toArray) 50 rfl rfl (by kernel_rfl) (by kernel_rfl) (by kernel_rfl) (fun _ _ _ h => h) (by kernel_rfl) (Ext.stable _) (fun _ h => h) (yieldsU_call rfl 51 _ _ rfl #[.agg (bv dd).toArray, .int .i64 (at' - k : Nat), .int .i64 (n - k : Nat), .slice (some ⟨b, off, none⟩) c cap] (by simp [Act.eval, Act.put]) (fun u => by go_simp) (fun u hu => (IA u (B4.out.trans (hu.mono B4.out.size))))) ?_
  refine anyU_takeD (i := 14) (v := .agg (bv ds).toArray) 51 rfl rfl (by kernel_rfl) (by kernel_rfl) (by kernel_rfl) (fun _ _ _ h => h) (by kernel_rfl) (Ext.stable _) (fun _ h => h) (yieldsU_call rfl 45 _ _ rfl #[.agg (bv el).toArray, .agg (bv l).toArray] (by simp [Act.eval, Act.put]) (fun u => by go_simp) (fun u hu => rnode_any el l ds u HEL hdl HER hrl hds)) ?_
  (try simp only [Act.put, List.setIfInBounds_toArray, List.set_cons_succ, List.set_cons_zero])
  refine anyU_tail 15 [] rfl rfl (by decide) (by kernel_rfl) ?_
  intro w6 h6
  simp only [Act.put, List.filterMap_cons, List.filterMap_nil, List.getElem?_cons_succ, List.getElem?_cons_zero]
  refine list_storeD rfl (.tmp 8) (.tmp 51) rfl tb rfl ds rfl HDS.out _ (T4.out.bel h6) ?_
  intro w9 d9 k9
  have B9 := Lib.hid (show Below w.heap.size w w9 from (B4.out.trans (Below.mono h6 B4.out.size)).trans (k9.below hTB))
  clear k9 h6
  (try simp only [Act.put])
  go_wp2_with fail
  refine bodyPost_ret (v := .agg (bv ds).toArray) (results_cell1 (a := ⟨tb, 0, none⟩) rfl _ rfl (run_loadVar_mid _ tb 0 _ (bv ds) _ d9.1.range Tryd.underlying26 rfl (size32' ds d9.2))) rfl ⟨rfl, ?_⟩
  exact B9.out
theorem rclimb_any (n : Nat) : ∀ (at' c : Nat) (ps dd ds : List Int), IsClimb at' n c ps dd ds → at' < n → ∀ (p : Option Addr) (cap : Nat) (w : World), Hid (SrcD w p c cap ps) → Hid (∀ z ∈ ps, 0 ≤ z ∧ z ≤ 255) → Hid (dd.length = 32) → Hid (∀ z ∈ dd, 0 ≤ z ∧ z ≤ 255) → n ≤ 1099511627776 → c ≤ 4611686018427387904 → Hid (KeysAt w) →
    Calls Tryd.prog 51 #[.agg (bv dd).toArray, .int .i64 at', .int .i64 n, .slice p c cap] w fun e w' => e = .returned (.agg (bv ds).toArray) ∧ Below w.heap.size w w' := by
  have hml : maxLen ≤ 9223372036854775807 := by decide
  induction n using Nat.strongRecOn with
  | _ n ih =>
    intro at' c ps dd ds ht hat p cap w hz hr hdl hdr hn hcc hk
    obtain ⟨hl, hc, hm, hp⟩ := hz.out
    cases ht with
    | one _ _ _ h => exact rclimb_one at' p cap dd ds w hdl hdr (Lib.hid h)
    | left _ _ k c _ _ l _ h1 hk2 h3 h4 h5 h6 =>
      obtain ⟨h2, _⟩ | ⟨b, off, rfl, hb, hz1⟩ := hp
      · omega
      · have k0 : 0 < k := by rw [hk2]; exact spN_pos n
        have k1 : k < n := by rw [hk2]; exact spN_lt h1
        refine rclimb_left at' n k c b off cap ps dd l ds w (Lib.hid hz1) hb (Lib.hid h4) hr hdl h1 hn hc (by omega) (by omega) (Lib.hid hk2) k0 k1 (Lib.hid h5.len) (Lib.hid h5.rng) h3 (Lib.hid h6) ?_
        intro u hu
        exact ih k k1 at' c _ dd l h5 h3 _ _ u (Lib.hid ⟨by rw [List.length_take]; omega, by omega, hm, .inr ⟨b, off, rfl, Nat.lt_of_lt_of_le hb hu.size, (hz1.below hu hb).take _⟩⟩) (Lib.hid fun z hz => hr.out z (List.mem_of_mem_take hz)) hdl hdr (by omega) (by omega) (Lib.hid (hk.out.below hu))
    | right _ _ k c _ _ l _ h1 hk2 h3 h4 h5 h6 =>
      obtain ⟨h2, _⟩ | ⟨b, off, rfl, hb, hz1⟩ := hp
      · omega
      · have k0 : 0 < k := by rw [hk2]; exact spN_pos n
        have k1 : k < n := by rw [hk2]; exact spN_lt h1
        refine rclimb_right at' n k c b off cap ps dd l ds w (Lib.hid hz1) hb (Lib.hid h4) hr hdl h1 hn hc (by omega) (by omega) (Lib.hid hk2) k0 k1 (Lib.hid h5.len) (Lib.hid h5.rng) h3 hat (Lib.hid h6) ?_
        intro u hu
        exact ih (n - k) (by omega) (at' - k) c _ dd l h5 (by omega) _ _ u (Lib.hid ⟨by rw [List.length_take]; omega, by omega, hm, .inr ⟨b, off, rfl, Nat.lt_of_lt_of_le hb hu.size, (hz1.below hu hb).take _⟩⟩) (Lib.hid fun z hz => hr.out z (List.mem_of_mem_take hz)) hdl hdr (by omega) (by omega) (Lib.hid (hk.out.below hu))
end Go.Proofs.YtmheblpgofeafaaDoor
