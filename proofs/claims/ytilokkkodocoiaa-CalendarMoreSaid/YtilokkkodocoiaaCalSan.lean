/- The law checks its examples. -/
import Derived.Test.YtilokkkodocoiaaCalSn0
import Derived.Test.YtilokkkodocoiaaCalSm
namespace Go.Proofs.Ytilokkkodocoiaa
open Go.RowKit
set_option linter.unusedVariables false
set_option linter.unusedSimpArgs false

theorem rulesNil (w : World) : RulesV w none 0 0 [] := ⟨rfl, by omega, by omega, fun _ => ⟨rfl, rfl⟩, by simp, .inl rfl⟩
theorem gapsNil (w : World) : GapsV w none 0 0 [] := ⟨rfl, by omega, by omega, fun _ => ⟨rfl, rfl⟩, by simp, .inl rfl⟩
theorem rulesOne {w : World} {b : Nat} {f u s : Int} (h : Blk w b #[.int .i64 f, .int .i64 u, .int .i64 s] 40) (h1 : -2097152 ≤ f ∧ f ≤ 2097152) (h2 : -2097152 ≤ u ∧ u ≤ 2097152) (h3 : -2097152 ≤ s ∧ s ≤ 2097152) : RulesV w (some ⟨b, 0, none⟩) 1 1 [(f, u, s)] := by
  refine ⟨rfl, by omega, by omega, (fun e => by cases e), ?_, .inr ⟨b, 0, rfl, h.lt, fun j hj => ?_⟩⟩
  · intro r hr
    rw [List.mem_singleton.1 hr]
    exact ⟨⟨by show _ ≤ f; omega, by show f ≤ _; omega⟩, ⟨by show _ ≤ u; omega, by show u ≤ _; omega⟩, ⟨by show _ ≤ s; omega, by show s ≤ _; omega⟩⟩
  · have hj0 : j = 0 := by simp at hj; exact hj
    subst hj0
    exact ⟨h.cell 0, h.cell 1, h.cell 2⟩
theorem gapsOne {w : World} {b : Nat} {f u : Int} (h : Blk w b #[.int .i64 f, .int .i64 u] 37) (h1 : -2097152 ≤ f ∧ f ≤ 2097152) (h2 : -2097152 ≤ u ∧ u ≤ 2097152) : GapsV w (some ⟨b, 0, none⟩) 1 1 [(f, u)] := by
  refine ⟨rfl, by omega, by omega, (fun e => by cases e), ?_, .inr ⟨b, 0, rfl, h.lt, fun j hj => ?_⟩⟩
  · intro r hr
    rw [List.mem_singleton.1 hr]
    exact ⟨⟨by show _ ≤ f; omega, by show f ≤ _; omega⟩, ⟨by show _ ≤ u; omega, by show u ≤ _; omega⟩⟩
  · have hj0 : j = 0 := by simp at hj; exact hj
    subst hj0
    exact ⟨h.cell 0, h.cell 1⟩
theorem gapsTwo {w : World} {b : Nat} {f u g v : Int} (h : Blk w b #[.int .i64 f, .int .i64 u, .int .i64 g, .int .i64 v] 37) (h1 : -2097152 ≤ f ∧ f ≤ 2097152) (h2 : -2097152 ≤ u ∧ u ≤ 2097152) (h3 : -2097152 ≤ g ∧ g ≤ 2097152) (h4 : -2097152 ≤ v ∧ v ≤ 2097152) : GapsV w (some ⟨b, 0, none⟩) 2 2 [(f, u), (g, v)] := by
  refine ⟨rfl, by omega, by omega, (fun e => by cases e), ?_, .inr ⟨b, 0, rfl, h.lt, fun j hj => ?_⟩⟩
  · intro r hr
    simp only [List.mem_cons, List.not_mem_nil, or_false] at hr
    rcases hr with rfl | rfl
    · exact ⟨⟨by show _ ≤ f; omega, by show f ≤ _; omega⟩, ⟨by show _ ≤ u; omega, by show u ≤ _; omega⟩⟩
    · exact ⟨⟨by show _ ≤ g; omega, by show g ≤ _; omega⟩, ⟨by show _ ≤ v; omega, by show v ≤ _; omega⟩⟩
  · have hj0 : j = 0 ∨ j = 1 := by simp at hj; omega
    rcases hj0 with rfl | rfl
    · exact ⟨h.cell 0, h.cell 1⟩
    · exact ⟨h.cell 2, h.cell 3⟩
theorem ownI_intsN {w : World} {B : Nat} {v : Value} {zs : List Int} (h : OwnI w B v zs) {n : Nat} (hn : zs.length = n) : ∃ p c, v = .slice p n c ∧ IntsV w p n c zs := by
  subst hn; exact ownI_ints h
theorem ints3 {w : World} {b : Nat} {x y z : Int} (h : Blk w b #[.int .i64 x, .int .i64 y, .int .i64 z] 3) : IntsV w (some ⟨b, 0, none⟩) 3 3 [x, y, z] := by
  refine ⟨rfl, by omega, by omega, .inr ⟨b, 0, rfl, h.lt, fun j hj => ?_⟩⟩
  have hj0 : j = 0 ∨ j = 1 ∨ j = 2 := by simp at hj; omega
  rcases hj0 with rfl | rfl | rfl
  · exact h.cell 0
  · exact h.cell 1
  · exact h.cell 2
theorem rep_get {α : Type} (n : Nat) (x : α) {j : Nat} (h : j < n) : (List.replicate n x).toArray[j]? = some x := by rw [List.getElem?_toArray, List.getElem?_replicate, if_pos h]
theorem rep_getD {α : Type} (n : Nat) (x d : α) {j : Nat} (h : j < n) : (List.replicate n x).getD j d = x := by rw [List.getD_eq_getElem?_getD, List.getElem?_replicate, if_pos h]; rfl
theorem mk17 : ∃ z : Array Value, Hid (∀ j, j < 51 → z[j]? = some (.int .i64 0)) ∧ ∀ u : World, (Instr.makeSlice 22 (.int .i64 17) (.int .i64 17)).run Try.prog u = .ok (.slice (some ⟨u.heap.size, 0, none⟩) 17 17) (u.alloc (.cells z 40)) := by
  refine ⟨(List.replicate 51 (.int .i64 0)).toArray, Lib.hid (fun j hj => rep_get 51 _ hj), fun u => by kernel_rfl⟩
theorem rules17 {w : World} {b : Nat} {z : Array Value} (hz : Hid (∀ j, j < 51 → z[j]? = some (.int .i64 0))) (h : Blk w b z 40) : RulesV w (some ⟨b, 0, none⟩) 17 17 (List.replicate 17 (0, 0, 0)) := by
  refine ⟨by simp, by omega, by omega, (fun e => by cases e), ?_, .inr ⟨b, 0, rfl, h.lt, fun j hj => ?_⟩⟩
  · intro r hr
    rw [List.eq_of_mem_replicate hr]
    exact ⟨⟨by decide, by decide⟩, ⟨by decide, by decide⟩, ⟨by decide, by decide⟩⟩
  · rw [List.length_replicate] at hj
    have e : (List.replicate 17 ((0, 0, 0) : Rl)).getD j rl0 = (0, 0, 0) := rep_getD 17 _ _ hj
    rw [e, Nat.zero_add]
    exact ⟨(h.cell _).trans (hz.out _ (by omega)), (h.cell _).trans (hz.out _ (by omega)), (h.cell _).trans (hz.out _ (by omega))⟩
theorem cmom_at (p : Option Addr) (n c : Nat) (rs : List Rl) (q : Option Addr) (m d : Nat) (gs : List Gp) (a b : Int) (w : World) (hr : Hid (RulesV w p n c rs)) (hg : Hid (GapsV w q m d gs)) (E : Int) (L : List Int) (hE : momE rs gs a b = E) (hL : momR rs gs a b = L) :
    Calls Try.prog 10 #[.slice p n c, .slice q m d, .int .i64 a, .int .i64 b] w fun e w' => ∃ v, e = .returned (.tuple #[v, .int .i64 E]) ∧ OwnI w' w.heap.size v L ∧ Below w.heap.size w w' := by
  subst hE hL; exact cmom_is p n c rs q m d gs a b w hr hg
theorem cnxt_at (p : Option Addr) (n c : Nat) (rs : List Rl) (q : Option Addr) (m d : Nat) (gs : List Gp) (a : Int) (w : World) (hr : Hid (RulesV w p n c rs)) (hg : Hid (GapsV w q m d gs)) (x : Int) (o : Bool) (E : Int) (hx : nxtM rs gs a = x) (ho : nxtB rs gs a = o) (hE : nxtE rs gs a = E) :
    Calls Try.prog 15 #[.slice p n c, .slice q m d, .int .i64 a] w fun e w' => e = .returned (.tuple #[.int .i64 x, .bool o, .int .i64 E]) ∧ Below w.heap.size w w' := by
  subst hx ho hE; exact cnxt_is p n c rs q m d gs a w hr hg
set_option maxRecDepth 100000 in
set_option maxHeartbeats 16000000 in
theorem sane19_any (w : World) : Calls Try.prog 9 #[] w fun r w' => r = .returned (.bool true) ∧ Below w.heap.size w w' := by
  go_enter Try.func9, Try.ntmps9
  go_upto_region 3 with fail
  have R0 := Lib.hid (show RulesV ((w.alloc (.cells #[.int .i64 5, .int .i64 40, .int .i64 10] 40)).alloc (.cells #[.int .i64 15, .int .i64 25] 37)) (some ⟨w.heap.size, 0, none⟩) 1 1 exR from rulesOne ((Blk.new w _ _).alloc _) (by decide) (by decide) (by decide))
  have G0 := Lib.hid (show GapsV ((w.alloc (.cells #[.int .i64 5, .int .i64 40, .int .i64 10] 40)).alloc (.cells #[.int .i64 15, .int .i64 25] 37)) (some ⟨w.heap.size + 1, 0, none⟩) 1 1 exG from gapsOne (by
    have h := Blk.new (w.alloc (.cells #[.int .i64 5, .int .i64 40, .int .i64 10] 40)) #[.int .i64 15, .int .i64 25] 37
    rw [World.size_alloc] at h
    exact h) (by decide) (by decide))
  have B0 := Lib.hid (show Below w.heap.size w ((w.alloc (.cells #[.int .i64 5, .int .i64 40, .int .i64 10] 40)).alloc (.cells #[.int .i64 15, .int .i64 25] 37)) from (bel_alloc1 w _).alloc (by simp) _)
  generalize World.alloc (World.alloc w _) _ = w0 at R0 G0 B0 ⊢
  go_upto_region 4 with (go_at_call 10; (with_reducible refine (cmom_at (some ⟨w.heap.size, 0, none⟩) 1 1 exR (some ⟨w.heap.size + 1, 0, none⟩) 1 1 exG 0 100 w0 R0 G0 0 [5, 25, 35] exE exMR).mono ?_); rintro e w1 ⟨v1, rfl, ho, hb⟩; have hbb := hb; have B1 := Lib.hid (bel_trans B0.out hbb); have R1 := Lib.hid (R0.out.below hbb); have G1 := Lib.hid (G0.out.below hbb); have OL := ho; clear hb hbb ho)
  obtain ⟨pl, cl, hvl, hl1⟩ := ownI_intsN OL (n := 3) rfl
  subst hvl
  have L1 := Lib.hid hl1
  clear hl1 OL
  go_upto_region 5 with (go_at_call 15; (with_reducible refine (cnxt_at (some ⟨w.heap.size, 0, none⟩) 1 1 exR (some ⟨w.heap.size + 1, 0, none⟩) 1 1 exG 6 w1 R1 G1 25 true 0 exNM.1 exNM.2 exN).mono ?_); rintro e w2 ⟨rfl, hb⟩; have hbb := hb; have B2 := Lib.hid (bel_trans B1.out hbb); have R2 := Lib.hid (R1.out.below hbb); have G2 := Lib.hid (G1.out.below hbb); have L2 := Lib.hid (L1.out.below hbb); clear hb hbb)
  go_upto_region 6 with (go_at_call 15; (with_reducible refine (cnxt_at (some ⟨w.heap.size, 0, none⟩) 1 1 exR none 0 0 [] 36 w2 R2 (Lib.hid (gapsNil _)) 0 false 0 exNMn.1 exNMn.2 exNn).mono ?_); rintro e w3 ⟨rfl, hb⟩; have hbb := hb; have B3 := Lib.hid (bel_trans B2.out hbb); have R3 := Lib.hid (R2.out.below hbb); have G3 := Lib.hid (G2.out.below hbb); have L3 := Lib.hid (L2.out.below hbb); clear hb hbb)
  go_upto_region 7 with (go_at_call 10; (with_reducible refine (cmom_at none 0 0 [] none 0 0 [] 0 100 w3 (Lib.hid (rulesNil _)) (Lib.hid (gapsNil _)) 0 [] exEn exMn).mono ?_); rintro e w4 ⟨v4, rfl, ho, hb⟩; have hbb := hb; have B4 := Lib.hid (bel_trans B3.out hbb); have R4 := Lib.hid (R3.out.below hbb); have G4 := Lib.hid (G3.out.below hbb); have L4 := Lib.hid (L3.out.below hbb); have ON := ho; clear hb hbb ho)
  obtain ⟨pn, cn, hvn, hn1⟩ := ownI_intsN ON (n := 0) rfl
  subst hvn
  clear hn1 ON
  go_upto_region 8 with (go_at_call 10; (with_reducible refine (cmom_at (some ⟨w.heap.size, 0, none⟩) 1 1 exR (some ⟨w.heap.size + 1, 0, none⟩) 1 1 exG 5 4 w4 R4 G4 1 [] exB (momR_nil (by rw [exB]; decide))).mono ?_); rintro e w5 ⟨v5, rfl, ho, hb⟩; have hbb := hb; have B5 := Lib.hid (bel_trans B4.out hbb); have R5 := Lib.hid (R4.out.below hbb); have G5 := Lib.hid (G4.out.below hbb); have L5 := Lib.hid (L4.out.below hbb); clear hb hbb ho)
  go_upto_region 9 with (go_at_call 15; (with_reducible refine (cnxt_at (some ⟨w.heap.size, 0, none⟩) 1 1 exR (some ⟨w.heap.size + 1, 0, none⟩) 1 1 exG (-1) w5 R5 G5 0 false 1 exFM.1 exFM.2 exF).mono ?_); rintro e w6 ⟨rfl, hb⟩; have hbb := hb; have B6 := Lib.hid (bel_trans B5.out hbb); have R6 := Lib.hid (R5.out.below hbb); have G6 := Lib.hid (G5.out.below hbb); have L6 := Lib.hid (L5.out.below hbb); clear hb hbb)
  go_upto_region 10 with (go_at_call 10; (with_reducible refine (cmom_at (some ⟨w6.heap.size, 0, none⟩) 1 1 exL none 0 0 [] 0 2097152 (w6.alloc (.cells #[.int .i64 0, .int .i64 2001, .int .i64 1] 40)) (Lib.hid (rulesOne (Blk.new w6 _ _) (by decide) (by decide) (by decide))) (Lib.hid (gapsNil _)) 2 [] exLE exLR).mono ?_); rintro e w7 ⟨v7, rfl, ho, hb⟩; have hbb : Below w6.heap.size w6 w7 := (bel_alloc1 w6 _).trans (hb.mono (by simp)); have B7 := Lib.hid (bel_trans B6.out hbb); have R7 := Lib.hid (R6.out.below hbb); have G7 := Lib.hid (G6.out.below hbb); have L7 := Lib.hid (L6.out.below hbb); clear hb hbb ho)
  obtain ⟨z17, HZ17, MK17⟩ := mk17
  go_upto_region 12 with fail
  have I7 : IntsV (w7.alloc (.cells #[.int .i64 5, .int .i64 25, .int .i64 35] 3)) (some ⟨w7.heap.size, 0, none⟩) 3 3 [5, 25, 35] := ints3 (Blk.new w7 _ _)
  have SM := rsame_is pl (some ⟨w7.heap.size, 0, none⟩) 3 cl 3 3 [5, 25, 35] [5, 25, 35] true (w7.alloc (.cells #[.int .i64 5, .int .i64 25, .int .i64 35] 3)) (Lib.hid (L7.out.below (bel_alloc1 w7 _))) (Lib.hid I7) (by omega) (by omega) (Lib.hid (by decide))
  clear I7
  go_wp2_with (first
    | (go_at_call 14; (with_reducible refine SM.mono ?_); rintro e w8 ⟨rfl, hb⟩; have hbb : Below w7.heap.size w7 w8 := (bel_alloc1 w7 _).trans (hb.mono (by simp)); have B8 := Lib.hid (bel_trans B7.out hbb); have R8 := Lib.hid (R7.out.below hbb); have G8 := Lib.hid (G7.out.below hbb); clear hb hbb)
    | (go_at_call 12; (with_reducible refine (ccheck_is (some ⟨w8.heap.size, 0, none⟩) 1 1 [(0, 0, 1)] none 0 0 [] 190 (w8.alloc (.cells #[.int .i64 0, .int .i64 0, .int .i64 1] 40)) (Lib.hid (rulesOne (Blk.new w8 _ _) (by decide) (by decide) (by decide))) (Lib.hid (gapsNil _)) (Lib.hid exK1)).mono ?_); rintro e w9 ⟨rfl, hb⟩; have hbb : Below w8.heap.size w8 w9 := (bel_alloc1 w8 _).trans (hb.mono (by simp)); have B9 := Lib.hid (bel_trans B8.out hbb); have R9 := Lib.hid (R8.out.below hbb); have G9 := Lib.hid (G8.out.below hbb); clear hb hbb)
    | (go_at_call 12; (with_reducible refine (ccheck_is none 0 0 [] (some ⟨w9.heap.size, 0, none⟩) 2 2 [(1, 2), (2, 3)] 190 (w9.alloc (.cells #[.int .i64 1, .int .i64 2, .int .i64 2, .int .i64 3] 37)) (Lib.hid (rulesNil _)) (Lib.hid (gapsTwo (Blk.new w9 _ _) (by decide) (by decide) (by decide) (by decide))) (Lib.hid exK2)).mono ?_); rintro e w10 ⟨rfl, hb⟩; have hbb : Below w9.heap.size w9 w10 := (bel_alloc1 w9 _).trans (hb.mono (by simp)); have B10 := Lib.hid (bel_trans B9.out hbb); have R10 := Lib.hid (R9.out.below hbb); have G10 := Lib.hid (G9.out.below hbb); clear hb hbb)
    | (go_at_call 12; (with_reducible refine (ccheck_is (some ⟨w10.heap.size, 0, none⟩) 17 17 (List.replicate 17 (0, 0, 0)) none 0 0 [] 2 (w10.alloc (.cells z17 40)) (Lib.hid (rules17 HZ17 (Blk.new w10 _ _))) (Lib.hid (gapsNil _)) (Lib.hid exK3)).mono ?_); rintro e w11 ⟨rfl, hb⟩; have hbb : Below w10.heap.size w10 w11 := (bel_alloc1 w10 _).trans (hb.mono (by simp)); have B11 := Lib.hid (bel_trans B10.out hbb); have R11 := Lib.hid (R10.out.below hbb); have G11 := Lib.hid (G10.out.below hbb); clear hb hbb)
    | (go_at_call 12; (with_reducible refine (ccheck_is (some ⟨w.heap.size, 0, none⟩) 1 1 exR (some ⟨w.heap.size + 1, 0, none⟩) 1 1 exG 0 w11 R11 G11 (Lib.hid exC)).mono ?_); rintro e w12 ⟨rfl, hb⟩; have B12 := Lib.hid (bel_trans B11.out hb); clear hb))
  go_ret
  exact ⟨rfl, B12.out⟩
end Go.Proofs.Ytilokkkodocoiaa
