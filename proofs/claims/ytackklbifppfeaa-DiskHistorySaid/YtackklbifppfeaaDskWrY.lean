/- disk.Write, where it writes. -/
import Derived.Test.YtackklbifppfeaaDskWrN
import Derived.Test.YtackklbifppfeaaDskClp
import Derived.Test.YtackklbifppfeaaDskNew
import Derived.ArgAppend
namespace Go.Proofs.Ytackklbifppfeaa
open Go.RowKit
set_option linter.unusedVariables false
set_option linter.unusedSimpArgs false

theorem gr_none {w w' : World} (h : w.grownBy w' none) : Below w.heap.size w w' := ⟨h.os, h.tape, h.output, h.size, fun i hi => h.block i hi (by simp)⟩
/-- append of one pending write behind a slice without room -/
theorem appPF {ops : Array Oper} {rest : List Oper} {o : Oper} {a : Act} {w : World} {Q : Exit → Act → World → Prop} (hgd : o.guard = none) (s x : Operand)
    (ho : o.op = .call { callee := .builtin .append, args := #[s, x], argTypes := #[23, 23] }) (p : Option Addr) (n : Nat) (ws : List Wt) (hs : a.eval s = .slice p n n) (hz : WtsV w p n ws) (hp : p = none → n = 0)
    (b : Nat) (at' : Wt) (hx : a.eval x = .slice (some ⟨b, 0, none⟩) 1 1) (hb : Blk w b (cellsP at').toArray 54) (hlen : n ≤ 1000000)
    (h : ∀ v' w', OwnP w' w.heap.size v' (ws ++ [at']) → Below w.heap.size w w' → wpList Try.prog ops Q rest (a.put o.dst v') w') : wpList Try.prog ops Q (o :: rest) a w := by
  cases p with
  | none =>
    obtain rfl := hp rfl
    obtain rfl : ws = [] := List.eq_nil_of_length_eq_zero hz.1.symm
    refine appP hgd s x ho w.heap.size (.slice none 0 0) [] hs ⟨rfl, .inl ⟨rfl, rfl⟩⟩ b at' hx hb (by simp) (Nat.le_refl _) ?_
    intro v' w' h1 h2
    exact h v' w' h1 (gr_none h2)
  | some ad =>
    obtain ⟨i0, hi, hz0, hz1, hz2⟩ := info_parts infoP
    have hn := hz.1
    have hsrc : ∀ j u, (rowP ws)[j]? = some u → w.cell? (ad.add j) = some u := by
      rcases hz.2.2.2 with h0 | ⟨b, off, e, hb, hc⟩
      · obtain rfl : ws = [] := List.eq_nil_of_length_eq_zero (by omega)
        intro j u hj; simp [rowP] at hj
      · cases e; exact wts_src hc
    obtain ⟨v', w', hr, h1, h2⟩ := run_append_arg_grows (P := Try.prog) w 23 o.type 54 i0 _ 2 32 Try.underlying23 hi hz0 hz1 hz2 rfl (by decide) ad n n (rowP ws) (by rw [rowP_len, hn]) hsrc ⟨b, 0, none⟩ 1 1 (cellsP at') rfl
      (fun j u hj => by rw [Addr.add_mid, Nat.zero_add, hb.cell j, List.getElem?_toArray]; exact hj) (by omega) (by unfold maxLen; omega) (by omega)
    refine wpList_plain hgd fun _ hK => ?_
    unfold Oper.wp execOp
    simp only [ho, resolve, invoke, builtin, Sem.run_bind, Sem.run_pure, Result.andThen_ok, List.map_toArray, List.map_cons, List.map_nil, hs, hx, hr]
    refine hK _ _ (h v' w' ?_ (gr_none h2))
    unfold OwnP
    rw [List.length_append, rowP_snoc, ← hn]
    exact h1
theorem blk_bytes {w : World} {b : Nat} {zs : List Int} {t : TypeId} (h : Blk w b (bv zs).toArray t) : BytesAt w b 0 zs := fun j hj => by rw [h.cell, Nat.zero_add]; exact bv_get zs j hj
theorem OwnP.val {w : World} {B : Nat} {v : Value} {l : List Wt} (h : OwnP w B v l) (h0 : 0 < l.length) (hok : ∀ x ∈ l, WtOk w x) (hm : l.length ≤ 1000000) : ∃ g cap, v = .slice (some ⟨g, 0, none⟩) l.length cap ∧ WtsV w (some ⟨g, 0, none⟩) l.length l ∧ l.length ≤ cap ∧ cap ≤ 9223372036854775807 ∧ B ≤ g := by
  obtain ⟨g, cap, hv, h1, h2, h3, h4, h5⟩ := h.slice h0
  exact ⟨g, cap, hv, ⟨rfl, by omega, hok, .inr ⟨g, 0, rfl, h4, h5⟩⟩, h1, by unfold maxLen at h2; omega, h3⟩
theorem srcW_pos {w : World} {p : Option Addr} {m c : Nat} {zs : List Int} (h : SrcW w p m c zs) (h0 : 0 < (bv zs).length) : ∃ ad, p = some ad ∧ ∀ j v, (bv zs)[j]? = some v → w.cell? (ad.add j) = some v := by
  rw [bv_len] at h0
  rcases h with ⟨h1, ⟨_, h2, _⟩ | ⟨b, off, rfl, hb, hc⟩⟩ | ⟨rfl, _⟩
  · omega
  · exact ⟨_, rfl, bytes_src hc⟩
  · simp at h0
/-- a sector that begins with these bytes -/
def padR (bs : List Int) : List Int := bs ++ List.replicate (128 - bs.length) 0
theorem padR_len {bs : List Int} (h : bs.length ≤ 128) : (padR bs).length = 128 := by unfold padR; rw [List.length_append, List.length_replicate]; omega
theorem padR_rng {bs : List Int} (h : ∀ z ∈ bs, 0 ≤ z ∧ z ≤ 255) : ∀ z ∈ padR bs, 0 ≤ z ∧ z ≤ 255 := fun z hz => by
  rcases List.mem_append.1 hz with h1 | h1
  · exact h z h1
  · have := List.eq_of_mem_replicate h1; omega
theorem padR_splice {bs : List Int} (h : bs.length ≤ 128) : splice zb 0 (bv bs) = bv (padR bs) := by
  have := splice_bv [] (List.replicate bs.length 0) bs 0 rfl (by simp) (List.replicate (128 - bs.length) 0)
  unfold padR
  rw [← List.nil_append (bs ++ _), ← this]
  congr 1
  unfold zb
  rw [List.nil_append, List.replicate_append_replicate]
  congr 2
  omega
/-- what a write answers -/
def IsWr (B0 : Nat) (ps : Option Addr) (ns cs np : Nat) (left : Int) (st : Bool) (k0 : Nat) (ws : List Wt) (bs : List Int) (w' : World) (e : Ending) : Prop :=
  ∃ g cap r, e = .returned (.tuple #[.agg (dskC ps ns cs (some ⟨g, 0, none⟩) (np + 1) cap left st), .int .i64 0]) ∧ WtsV w' (some ⟨g, 0, none⟩) (np + 1) (ws ++ [⟨k0, r⟩]) ∧ np + 1 ≤ cap ∧ cap ≤ 9223372036854775807 ∧ r.m = 128 ∧ r.bs = padR bs ∧ B0 ≤ g ∧ ∃ rb, r.p = some ⟨rb, 0, none⟩ ∧ B0 ≤ rb
theorem isWr {B0 : Nat} {ps : Option Addr} {ns cs np : Nat} {left : Int} {st : Bool} {k0 : Nat} {ws : List Wt} {bs : List Int} {w' : World} {g cap B b c : Nat} (hn : np = ws.length) (hnp : np < 4096) (hk : (k0 : Int) ≤ 4096) (hl : bs.length ≤ 128) (hc1 : 128 ≤ c) (hc2 : c ≤ 9223372036854775807)
    (ho : OwnP w' B (.slice (some ⟨g, 0, none⟩) (np + 1) cap) (ws ++ [⟨k0, ⟨some ⟨b, 0, none⟩, 128, c, padR bs⟩⟩])) (hok : ∀ x ∈ ws, WtOk w' x) (hby : ∀ z ∈ bs, 0 ≤ z ∧ z ≤ 255) (hb : BytesAt w' b 0 (padR bs)) (hlt : b < w'.heap.size) (hB0 : B0 ≤ B) (hb0 : B0 ≤ b) :
    IsWr B0 ps ns cs np left st k0 ws bs w' (.returned (.tuple #[.agg (dskC ps ns cs (some ⟨g, 0, none⟩) (np + 1) cap left st), .int .i64 0])) := by
  have hL : (ws ++ [(⟨k0, ⟨some ⟨b, 0, none⟩, 128, c, padR bs⟩⟩ : Wt)]).length = np + 1 := by rw [List.length_append, hn]; rfl
  have hlen := padR_len hl
  obtain ⟨g', cap', hv, hw, h1, h2, hBg⟩ := ho.val (by omega) (fun x hx => by
    rcases List.mem_append.1 hx with h | h
    · exact hok x h
    · obtain rfl : x = ⟨k0, ⟨some ⟨b, 0, none⟩, 128, c, padR bs⟩⟩ := by simpa using h
      refine ⟨⟨by show (-9223372036854775808 : Int) ≤ (k0 : Int); omega, by show (k0 : Int) ≤ 9223372036854775807; omega⟩, .inl ⟨hlen.symm, .inr ⟨b, 0, rfl, hlt, hb⟩⟩, padR_rng hby, by show 128 ≤ _; omega, hc1, hc2⟩) (by omega)
  rw [hL] at hv hw h1
  simp at hv
  obtain ⟨rfl, rfl⟩ := hv
  exact ⟨g, cap, _, rfl, hw, h1, h2, rfl, rfl, Nat.le_trans hB0 hBg, b, rfl, hb0⟩

set_option maxRecDepth 100000 in
set_option maxHeartbeats 2000000 in
theorem write_yes (k0 : Nat) (pb : Option Addr) (mb cb : Nat) (ps : Option Addr) (ns cs : Nat) (pp : Option Addr) (np cp : Nat) (left : Int) (st : Bool) (rs : List Rw) (ws : List Wt) (w : World) (hz : Hid (DskV w ps ns pp np left rs ws)) (hq : Hid (runB left st rs ws = true)) (hk0 : k0 < ns) (hb1 : mb ≤ 128) (hb2 : np < 4096) (bs : List Int) (hbs : Hid (SrcW w pb mb cb bs)) (hby : Hid (∀ z ∈ bs, 0 ≤ z ∧ z ≤ 255)) (hk1 : ns ≤ 4096)
    (hp1 : np ≤ cp) (hp2 : cp ≤ 9223372036854775807) (hp3 : Hid (pp = none → np = 0 ∧ cp = 0)) :
    Calls Try.prog 19 #[.agg (dskC ps ns cs pp np cp left st), .int .i64 k0, .slice pb mb cb] w fun e w' => IsWr w.heap.size ps ns cs np left st k0 ws bs w' e ∧ Below w.heap.size w w' := by
  have V0 := Lib.hid (Blk.new w (dskC ps ns cs pp np cp left st) 25)
  have h1 := Lib.hid (bel_alloc1 w (.cells (dskC ps ns cs pp np cp left st) 25))
  have VW := Lib.hid (V0.out.alloc (.cells #[.slice none 0 0, .slice none 0 0, .int .i64 0, .bool false] 25))
  have ZW := Lib.hid (Blk.new (w.alloc (.cells (dskC ps ns cs pp np cp left st) 25)) #[.slice none 0 0, .slice none 0 0, .int .i64 0, .bool false] 25)
  have h2 := Lib.hid (h1.out.alloc h1.out.size (.cells #[.slice none 0 0, .slice none 0 0, .int .i64 0, .bool false] 25))
  have H0 := Lib.hid (hz.out.below h2.out)
  have m1 := hz.out.1.2.1
  have m2 := hz.out.2.1.2.1
  obtain ⟨N, hN⟩ : ∃ N, (w.alloc (.cells (dskC ps ns cs pp np cp left st) 25)).heap.size = N := ⟨_, rfl⟩
  have hNe : N = w.heap.size + 1 := by rw [← hN]; simp
  rw [hN] at ZW
  subst hNe
  clear hN
  have HC := Lib.hid (run_yes hq.out)
  have HQ := Lib.hid (show decide (0 ≤ (k0 : Int) ∧ (k0 : Int) < ns) = true by simp; omega)
  have HN := Lib.hid hz.out.2.1.1
  have hsz : (Try.prog.info? 5).map (·.size) = some 1 := by kernel_rfl
  have HBL := Lib.hid (show bs.length ≤ 128 by have := hbs.out.len; omega)
  have HML := Lib.hid hbs.out.len
  have SP := Lib.hid (padR_splice HBL.out)
  go_enter Try.func19, Try.ntmps19
  go_wp2_with fail
  refine (running_any ps ns cs pp np cp left st rs ws _ H0).mono ?_; rintro e w1 ⟨rfl, hb⟩
  have V1 := Lib.hid (VW.out.below hb VW.out.lt)
  have Z1 := Lib.hid (ZW.out.below hb ZW.out.lt)
  have B1 := Lib.hid (h2.out.trans (hb.mono h2.out.size)); clear hb
  have D1 := Lib.hid (hz.out.below B1.out)
  obtain ⟨c0, c1, c2, c3, lb⟩ := blk4_facts V1.out
  rw [HC.out]
  go_wp2_with fail
  refine (sector_q _ ps ns cs pp np cp left st rs ws _ D1 true HQ).mono ?_; rintro e w2 ⟨rfl, hb⟩
  have V2 := Lib.hid (V1.out.below hb V1.out.lt)
  have Z2 := Lib.hid (Z1.out.below hb Z1.out.lt)
  have B2 := Lib.hid (B1.out.trans (hb.mono B1.out.size)); clear hb c0 c1 c2 c3 lb
  obtain ⟨c0, c1, c2, c3, lb⟩ := blk4_facts V2.out
  obtain ⟨d0, d1, d2, d3, ld⟩ := blk4_facts Z2.out
  have MK := run_makeZ w2
  obtain ⟨Z, hZ⟩ : ∃ Z, zb = Z := ⟨_, rfl⟩
  have lZ := Lib.hid (show Z.length = 128 by rw [← hZ]; unfold zb; rw [bv_len, List.length_replicate])
  have S1 := Lib.hid (show splice Z 0 (bv bs) = bv (padR bs) by rw [← hZ]; exact SP.out)
  rw [hZ] at MK
  clear hZ SP
  have hWs : w.heap.size < w2.heap.size ∧ w.heap.size + 1 < w2.heap.size := ⟨lb, ld⟩
  go_wp2_with (refine wpList_copy_splice rfl (.tmp 32) (.tmp 33) 35 35 rfl 5 Try.underlying35 hsz (some ⟨w2.heap.size, 0, none⟩) pb 128 128 mb cb rfl rfl w2.heap.size 0 Z 5 ?c1 (bv bs) ?c2 ?c3 ?c4 ?c5 w2.heap.size w2 ?c6 (Nat.le_refl _) ?_)
  case c1 => exact World.alloc_heap_new _ _
  case c2 => rw [bv_len, ← HML.out]; show mb = min mb 128; omega
  case c3 => exact fun h0 => (srcW_pos (hbs.out.below (B2.out.trans ((bel_alloc1 w2 _).mono (Nat.le_of_lt hWs.1)))) h0)
  case c4 => rw [bv_len, lZ.out]; have := HBL.out; omega
  case c5 => exact bv_one _
  case c6 => exact bel_alloc1 _ _
  intro w3 H3 hb3
  rw [S1.out] at H3
  have V3 := Lib.hid (V2.out.below hb3 V2.out.lt)
  have Z3 := Lib.hid (Z2.out.below hb3 Z2.out.lt)
  have R3 := Lib.hid (show Blk w3 w2.heap.size (bv (padR bs)).toArray 5 from H3.out)
  have hsz3 : w2.heap.size < w3.heap.size := R3.out.lt
  have B3 := Lib.hid (B2.out.trans (hb3.mono (Nat.le_of_lt hWs.1)))
  clear hb3 c0 c1 c2 c3 lb d0 d1 d2 d3 ld MK H3
  have D3 := Lib.hid (hz.out.2.1.below B3.out)
  obtain ⟨c0, c1, c2, c3, lb⟩ := blk4_facts V3.out
  go_wp2_with fail
  refine (clip_any pp np cp _ hp1 hp2 hp3.out).mono ?_; rintro e w4 ⟨rfl, hw4⟩; subst w4
  go_wp2_with (at_builtin; refine appPF rfl (.tmp 37) (.tmp 41) rfl pp np ws rfl ?e1 ?e2 w3.heap.size ⟨k0, ⟨some ⟨w2.heap.size, 0, none⟩, 128, 128, padR bs⟩⟩ rfl ?e3 ?e4 ?_)
  case e1 => exact D3.out.below (bel_alloc1 _ _)
  case e2 => exact fun h => (hp3.out h).1
  case e3 => exact Blk.new _ _ _
  case e4 => omega
  intro v5 w5 h5 hb5
  have hK := (bel_alloc1 w3 _).trans (hb5.mono (Nat.le_succ _))
  have V5 := Lib.hid (V3.out.below hK V3.out.lt)
  have Z5 := Lib.hid (Z3.out.below hK Z3.out.lt)
  have R5 := Lib.hid (R3.out.below hK R3.out.lt)
  have B5 := Lib.hid (B3.out.trans (hK.mono (Nat.le_of_lt lb)))
  obtain ⟨g, cap, hv, _, _, hg, _, _⟩ := h5.slice (by simp)
  have O5 := Lib.hid h5
  rw [List.length_append, List.length_singleton, ← HN.out] at hv
  subst hv
  clear h5 hb5 hK c0 c1 c2 c3 lb
  obtain ⟨c0, c1, c2, c3, lb⟩ := blk4_facts V5.out
  obtain ⟨d0, d1, d2, d3, ld⟩ := blk4_facts Z5.out
  have f0 := Z5.out.frozen 0; have f1 := Z5.out.frozen 1; have f2 := Z5.out.frozen 2; have f3 := Z5.out.frozen 3
  have g1 := V5.out.frozen 1
  go_wp2_with fail
  refine bodyPost_ret (v := .tuple #[.agg (dskC ps ns cs (some ⟨g, 0, none⟩) (np + 1) cap left st), .int .i64 0]) ?_ rfl ⟨?_, ?_⟩
  · rw [results_cell_tmp rfl]; go_simp
  · refine isWr HN.out hb2 (by omega) HBL.out (Nat.le_refl 128) (by omega) (B := w3.heap.size + 1) (b := w2.heap.size) ?_ (fun x hx => (hz.out.2.1.2.2.1 x hx).below ?_) hby.out (blk_bytes (t := 5) ?_) ?_ ?_ ?_
    · (iterate 5 (refine OwnP.set ?_ (by omega))); exact O5.out
    · (iterate 5 (refine Below.setCell ?_ (by simp) _)); exact B5.out
    · (iterate 5 (refine Blk.other ?_ _ _ (by omega))); exact R5.out
    · simp; exact R5.out.lt
    · omega
    · omega
  · (iterate 5 (refine Below.setCell ?_ (by simp) _)); exact B5.out
end Go.Proofs.Ytackklbifppfeaa
