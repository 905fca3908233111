/- The reference's Make; lists in order with the same members are equal. -/
import Derived.Test.YtjdkdhpippapmaaGreatDoorRefSgC
import Derived.Test.YtjdkdhpippapmaaGreatDoorStpZE
namespace Go.Proofs.YtjdkdhpippapmaaGreatDoor
open Go.RowKit
set_option linter.unusedVariables false
set_option linter.unusedSimpArgs false

set_option maxRecDepth 100000 in
set_option maxHeartbeats 4000000 in
theorem rmake_is (x : Int) (zs : List Int) (n c s : Int) (w : World) (hl : Hid (zs.length = 32)) (hx : Hid (secB x = true)) (hok : Hid (∀ a ∈ [Atom.text zs, .int n], a.ok)) (htx : Hid (txOk (encL [.text zs, .int n]))) (hsig : Hid (IsSig x (encL [.text zs, .int n]) c s)) :
    Calls Tryz.prog 27 #[.int .i64 x, .agg (bv zs).toArray, .int .i64 n] w fun e w' => e = .returned (.agg (stv zs n c s).toArray) ∧ Below w.heap.size w w' := by
  have DB := Lib.hid ((Dg.box w hl.out).alloc (.cells #[.int .u8 0, .int .u8 0, .int .u8 0, .int .u8 0, .int .u8 0, .int .u8 0, .int .u8 0, .int .u8 0, .int .u8 0, .int .u8 0, .int .u8 0, .int .u8 0, .int .u8 0, .int .u8 0, .int .u8 0, .int .u8 0, .int .u8 0, .int .u8 0, .int .u8 0, .int .u8 0, .int .u8 0, .int .u8 0, .int .u8 0, .int .u8 0, .int .u8 0, .int .u8 0, .int .u8 0, .int .u8 0, .int .u8 0, .int .u8 0, .int .u8 0, .int .u8 0, .int .i64 0, .int .i64 0, .int .i64 0] 27))
  have RB := Lib.hid (show SBlk ((w.alloc (.cells (bv zs).toArray 23)).alloc (.cells #[.int .u8 0, .int .u8 0, .int .u8 0, .int .u8 0, .int .u8 0, .int .u8 0, .int .u8 0, .int .u8 0, .int .u8 0, .int .u8 0, .int .u8 0, .int .u8 0, .int .u8 0, .int .u8 0, .int .u8 0, .int .u8 0, .int .u8 0, .int .u8 0, .int .u8 0, .int .u8 0, .int .u8 0, .int .u8 0, .int .u8 0, .int .u8 0, .int .u8 0, .int .u8 0, .int .u8 0, .int .u8 0, .int .u8 0, .int .u8 0, .int .u8 0, .int .u8 0, .int .i64 0, .int .i64 0, .int .i64 0] 27)) (w.heap.size + 1) 27 (List.replicate 32 0) 0 0 0 by have := SBlk.new (w.alloc (.cells (bv zs).toArray 23)) 27; simpa using this)
  have BW := Lib.hid (show Below w.heap.size w ((w.alloc (.cells (bv zs).toArray 23)).alloc (.cells #[.int .u8 0, .int .u8 0, .int .u8 0, .int .u8 0, .int .u8 0, .int .u8 0, .int .u8 0, .int .u8 0, .int .u8 0, .int .u8 0, .int .u8 0, .int .u8 0, .int .u8 0, .int .u8 0, .int .u8 0, .int .u8 0, .int .u8 0, .int .u8 0, .int .u8 0, .int .u8 0, .int .u8 0, .int .u8 0, .int .u8 0, .int .u8 0, .int .u8 0, .int .u8 0, .int .u8 0, .int .u8 0, .int .u8 0, .int .u8 0, .int .u8 0, .int .u8 0, .int .i64 0, .int .i64 0, .int .i64 0] 27)) from (bel_alloc1 w _).alloc (by simp) _)
  obtain ⟨x0, x1⟩ := secB_iff.1 hx.out
  go_enter Tryz.func27, Tryz.ntmps27
  go_upto_region 2 with (first
    | (refine list_loadD (by rfl) (.tmp 4) rfl w.heap.size rfl zs DB.out ?_)
    | (go_at_call 26; refine (rtext_is zs n _ hl hok).mono ?_; rintro e w1 ⟨v1, rfl, o1, hb⟩; obtain ⟨p1, c1, rfl, z1, _, _, _⟩ := own8_src o1; have Z1 := Lib.hid z1; have B1 := Lib.hid (bel_trans BW.out hb); have W10 := Lib.hid hb; clear o1 hb z1)
    | (go_at_call 64; refine (rsign_yes x p1 _ c1 (encL [.text zs, .int n]) _ x0 x1 htx (Lib.hid (.inl Z1.out)) c s hsig).mono ?_; rintro e w2 ⟨rfl, hb⟩; have B2 := Lib.hid (bel_trans B1.out hb); have W20 := Lib.hid (bel_trans W10.out hb); clear hb))
  generalize hW3 : World.alloc w2 _ = W3
  have B3 := Lib.hid (show Below w.heap.size w W3 by rw [← hW3]; exact B2.out.alloc B2.out.size _)
  have SG := Lib.hid (show Blk W3 w2.heap.size #[.int .i64 c, .int .i64 s] 25 by rw [← hW3]; exact Blk.new w2 _ _)
  have KB := Lib.hid (show Below w2.heap.size w2 W3 by rw [← hW3]; exact bel_alloc1 w2 _)
  have KW := Lib.hid (show Below ((w.alloc (.cells (bv zs).toArray 23)).alloc (.cells #[.int .u8 0, .int .u8 0, .int .u8 0, .int .u8 0, .int .u8 0, .int .u8 0, .int .u8 0, .int .u8 0, .int .u8 0, .int .u8 0, .int .u8 0, .int .u8 0, .int .u8 0, .int .u8 0, .int .u8 0, .int .u8 0, .int .u8 0, .int .u8 0, .int .u8 0, .int .u8 0, .int .u8 0, .int .u8 0, .int .u8 0, .int .u8 0, .int .u8 0, .int .u8 0, .int .u8 0, .int .u8 0, .int .u8 0, .int .u8 0, .int .u8 0, .int .u8 0, .int .i64 0, .int .i64 0, .int .i64 0] 27)).heap.size ((w.alloc (.cells (bv zs).toArray 23)).alloc (.cells #[.int .u8 0, .int .u8 0, .int .u8 0, .int .u8 0, .int .u8 0, .int .u8 0, .int .u8 0, .int .u8 0, .int .u8 0, .int .u8 0, .int .u8 0, .int .u8 0, .int .u8 0, .int .u8 0, .int .u8 0, .int .u8 0, .int .u8 0, .int .u8 0, .int .u8 0, .int .u8 0, .int .u8 0, .int .u8 0, .int .u8 0, .int .u8 0, .int .u8 0, .int .u8 0, .int .u8 0, .int .u8 0, .int .u8 0, .int .u8 0, .int .u8 0, .int .u8 0, .int .i64 0, .int .i64 0, .int .i64 0] 27)) W3 from bel_trans W20.out KB.out)
  have D3 := Lib.hid (DB.out.bel KW.out)
  have R3 := Lib.hid (RB.out.bel KW.out)
  clear hW3 KB KW W20 DB RB
  go_step
  refine list_loadD (by rfl) (.tmp 4) rfl w.heap.size rfl zs D3.out ?_
  simp only [Act.put, List.setIfInBounds_toArray, List.set_cons_succ, List.set_cons_zero]
  refine list_val (by rfl) (.int .i64 n) (by go_simp) ?_
  simp only [Act.put, List.setIfInBounds_toArray, List.set_cons_succ, List.set_cons_zero]
  refine list_val (by rfl) (.agg #[.int .i64 c, .int .i64 s]) (by have c0 := SG.out.cell 0; have c1 := SG.out.cell 1; go_simp) ?_
  simp only [Act.put, List.setIfInBounds_toArray, List.set_cons_succ, List.set_cons_zero]
  refine list_build (by rfl) 27 _ rfl [(0, .agg (bv zs).toArray), (1, .int .i64 n), (2, .agg #[.int .i64 c, .int .i64 s])] (by rfl) _ (built_st hl.out n c s) ?_
  simp only [Act.put, List.setIfInBounds_toArray, List.set_cons_succ, List.set_cons_zero]
  refine list_storeApi rfl (.tmp 6) (.tmp 20) rfl (w.heap.size + 1) rfl zs n c s rfl hl.out 27 _ _ _ _ R3.out ?_
  intro w4 q4 k4
  have Q4 := Lib.hid q4
  have B4 := Lib.hid (B3.out.trans (k4.below (by omega)))
  clear q4 k4
  go_wp2_with fail
  refine bodyPost_ret (v := .agg (stv zs n c s).toArray) (results_cell1 (a := ⟨w.heap.size + 1, 0, none⟩) Tryz.results27 _ rfl (load_st Q4.out)) rfl ⟨rfl, B4.out⟩
theorem adj_tail {a : List Int} {l : List (List Int)} (h : adjOK (a :: l)) : adjOK l := fun j hj => h (j + 1) (by simpa using hj)
theorem adj_first {a d : List Int} {l : List (List Int)} (h : adjOK (a :: l)) (hd : d ∈ l) : ltD a d = true := by
  obtain ⟨i, hi, e⟩ := List.getElem_of_mem hd
  have := adj_lt' h (i := 0) (j := i + 1) (by omega) (by simpa using hi)
  simpa [List.getD, hi, e] using this
theorem sorted_ext : ∀ (l r : List (List Int)), adjOK l → adjOK r → (∀ d, d ∈ l ↔ d ∈ r) → l = r
  | [], [], _, _, _ => rfl
  | [], b :: r, _, _, h => by have := (h b).2 List.mem_cons_self; cases this
  | a :: l, [], _, _, h => by have := (h a).1 List.mem_cons_self; cases this
  | a :: l, b :: r, hl, hr, h => by
    have hab : a = b := by
      rcases List.mem_cons.1 ((h a).1 List.mem_cons_self) with e | e
      · exact e
      rcases List.mem_cons.1 ((h b).2 List.mem_cons_self) with f | f
      · exact f.symm
      have h1 := adj_first hr e
      have h2 := adj_first hl f
      rw [ltD_asymm h1] at h2; cases h2
    subst hab
    congr 1
    refine sorted_ext l r (adj_tail hl) (adj_tail hr) fun d => ⟨fun hd => ?_, fun hd => ?_⟩
    · rcases List.mem_cons.1 ((h d).1 (List.mem_cons_of_mem _ hd)) with e | e
      · have := adj_first hl hd
        rw [e, ltD_irrefl] at this; cases this
      · exact e
    · rcases List.mem_cons.1 ((h d).2 (List.mem_cons_of_mem _ hd)) with e | e
      · have := adj_first hr hd
        rw [e, ltD_irrefl] at this; cases this
      · exact e
theorem put_mem {l : List (List Int)} {d e : List Int} (i : Nat) : e ∈ putD l d i ↔ e = d ∨ e ∈ l := by
  unfold putD
  rw [List.mem_append, List.mem_cons]
  constructor
  · rintro (h | h | h)
    · exact .inr (List.mem_of_mem_take h)
    · exact .inl h
    · exact .inr (List.mem_of_mem_drop h)
  · rintro (h | h)
    · exact .inr (.inl h)
    · rw [← List.take_append_drop i l, List.mem_append] at h
      rcases h with h | h
      · exact .inl h
      · exact .inr (.inr h)
theorem put_get {l : List (List Int)} {d : List Int} {i : Nat} (hi : i ≤ l.length) (j : Nat) : (putD l d i).getD j [] = if j < i then l.getD j [] else if j = i then d else l.getD (j - 1) [] := by
  unfold putD
  have ht : (l.take i).length = i := by rw [List.length_take]; omega
  split
  · rename_i h
    rw [List.getD_eq_getElem?_getD, List.getElem?_append_left (by omega), List.getElem?_take, if_pos h, ← List.getD_eq_getElem?_getD]
  · rename_i h
    rw [List.getD_eq_getElem?_getD, List.getElem?_append_right (by omega), ht]
    split
    · rename_i h2; subst h2; simp
    · rename_i h2
      obtain ⟨k, hk⟩ : ∃ k, j - i = k + 1 := ⟨j - i - 1, by omega⟩
      rw [hk, List.getElem?_cons_succ, List.getElem?_drop, List.getD_eq_getElem?_getD]
      congr 2; omega
theorem put_adj {l : List (List Int)} {d : List Int} {i : Nat} (ha : adjOK l) (hp : IsPos l d i) (hn : hasD l d = false) : adjOK (putD l d i) := by
  intro j hj
  rw [putD_len l d i hp.1] at hj
  rw [put_get hp.1, put_get hp.1]
  rcases Nat.lt_trichotomy (j + 1) i with h | h | h
  · rw [if_pos (by omega), if_pos h]; exact ha j (by have := hp.1; omega)
  · rw [if_pos (by omega), if_neg (by omega), if_pos h]
    exact hp.2.1 j (by omega)
  · by_cases e : j = i
    · rw [if_neg (by omega), if_pos e, if_neg (by omega), if_neg (by omega)]
      have h1 := hp.2.2 (j + 1 - 1) (by omega) (by omega)
      refine ltD_tri h1 fun he => ?_
      have : hasD l d = true := by
        unfold hasD
        rw [List.contains_iff_mem, ← he, List.getD_eq_getElem?_getD, List.getElem?_eq_getElem (by omega)]
        exact List.getElem_mem _
      rw [hn] at this; cases this
    · rw [if_neg (by omega), if_neg e, if_neg (by omega), if_neg (by omega)]
      have := ha (j - 1) (by omega)
      rwa [show j - 1 + 1 = j by omega] at this
theorem has_iff {l : List (List Int)} {d : List Int} : hasD l d = true ↔ d ∈ l := by unfold hasD; rw [List.contains_iff_mem]
end Go.Proofs.YtjdkdhpippapmaaGreatDoor
