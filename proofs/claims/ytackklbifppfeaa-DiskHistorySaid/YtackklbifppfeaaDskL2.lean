/- What is known of disks after writes, syncs and restarts. -/
import Derived.Test.YtackklbifppfeaaDskL
namespace Go.Proofs.Ytackklbifppfeaa
open Go.RowKit
set_option linter.unusedVariables false
set_option linter.unusedSimpArgs false

def RdOk (w : World) (b off : Nat) (bs : List Int) : Prop := BytesAt w b off bs ∧ b < w.heap.size
theorem RdOk.below {w w' : World} {b off : Nat} {bs : List Int} (h : RdOk w b off bs) (k : Below w.heap.size w w') : RdOk w' b off bs := ⟨h.1.below k h.2, Nat.lt_of_lt_of_le h.2 k.size⟩
theorem RdOk.at {w : World} {b off : Nat} {bs : List Int} (h : RdOk w b off bs) (j : Nat) (hj : j < bs.length) : w.cell? ⟨b, off + j, none⟩ = some (.int .u8 (bs.getD j 0)) := h.1 j hj
def Dk.ok (d : Dk) : Prop := (1 ≤ d.rs.length ∧ d.rs.length ≤ 4096) ∧ ∀ r ∈ d.rs, r.m = 128
theorem DkSep.re {d : Dk} {b : Nat} (h : DkSep d b) : DkSep d.re b := ⟨h.1, .inl rfl, h.2.2.1, fun x hx => (List.not_mem_nil hx).elim⟩
theorem DkSep.stop {d : Dk} {b : Nat} {k : Int} (h : DkSep d b) : DkSep (d.stop k) b := h
theorem fresh_run {n : Nat} {d : Dk} (h : IsFresh n d) (h1 : 1 ≤ n) (h2 : n ≤ 4096) : d.run = true := by
  obtain ⟨h3, h4, h5, h6, h7⟩ := h
  refine Dk.mk_run ⟨by omega, by omega, by rw [h5]; simp, by omega, by omega⟩ (fun r hr => (h7 r hr).1) (fun x hx => ?_) h4
  rw [h5] at hx; cases hx
theorem wrote_run {d d' : Dk} {k : Nat} {bs : List Int} (h : Wrote d k bs d') (hr : d.run = true) (hk : k < d.rs.length) (hn : d.ws.length < 4096) : d'.run = true := by
  obtain ⟨h1, h2, h3, r, h4, h5, h6⟩ := h
  obtain ⟨f1, f2, f3, f4⟩ := Dk.facts hr
  refine Dk.mk_run ⟨by rw [h1]; omega, by rw [h1]; omega, by rw [h4, List.length_append]; simp; omega, by rw [h2]; omega, by rw [h2]; omega⟩ (by rw [h1]; exact f2) (fun x hx => ?_) (by rw [h3]; exact f4)
  rw [h4] at hx
  rw [h1]
  rcases List.mem_append.1 hx with h7 | h7
  · exact f3 x h7
  · obtain rfl : x = ⟨k, r⟩ := by simpa using h7
    exact ⟨⟨by show (0 : Int) ≤ (k : Int); omega, by show (k : Int) < _; omega⟩, h5⟩
theorem stop_run {d : Dk} {k : Int} (hr : d.run = true) (h1 : 0 ≤ k) (h2 : k ≤ 65536) : (d.stop k).run = true := by
  obtain ⟨f1, f2, f3, f4⟩ := Dk.facts hr
  exact Dk.mk_run ⟨f1.1, f1.2.1, f1.2.2.1, by show -1 ≤ k; omega, h2⟩ f2 f3 f4
theorem re_run {d : Dk} (h : d.ok) : d.re.run = true :=
  Dk.mk_run ⟨h.1.1, h.1.2, by show 0 ≤ _; omega, by show -1 ≤ (-1 : Int); omega, by show (-1 : Int) ≤ _; omega⟩ h.2 (fun x hx => (List.not_mem_nil hx).elim) rfl
theorem run_ok {d : Dk} (h : d.run = true) : d.ok := ⟨⟨(Dk.facts h).1.1, (Dk.facts h).1.2.1⟩, (Dk.facts h).2.1⟩
theorem synced_ok {d d' : Dk} (h : Synced d d') (hr : d.run = true) : d'.ok := by
  obtain ⟨_, _, h3, _, _, h6⟩ := h
  have := Dk.facts hr
  exact ⟨by rw [h6]; exact ⟨this.1.1, this.1.2.1⟩, h3⟩
theorem synced_run {d d' : Dk} (h : Synced d d') (hr : d.run = true) (hs : stopB d.left d.ws.length = false) : d'.run = true := by
  obtain ⟨h1, h2, h3, h4, h5, h6⟩ := h
  obtain ⟨f1, f2, f3, f4⟩ := Dk.facts hr
  have hl : -1 ≤ d'.left ∧ d'.left ≤ 65536 := by
    rw [h4]; unfold synL; rw [hs]
    unfold stopB at hs
    simp only [decide_eq_false_iff_not] at hs
    simp only [Bool.false_eq_true, if_false]
    split <;> omega
  exact Dk.mk_run ⟨by omega, by omega, by rw [h1]; simp, hl.1, hl.2⟩ h3 (fun x hx => by rw [h1] at hx; cases hx) (by rw [h5, hs])
theorem readB_wrote {d d' : Dk} {k : Nat} {bs : List Int} (h : Wrote d k bs d') (j : Nat) : readB d' j = if j = k then padR bs else readB d j := by
  obtain ⟨h1, h2, h3, r, h4, h5, h6⟩ := h
  have e : readR j (d'.rs.getD j rw0) d'.ws = if (k : Int) = (j : Int) then r else readR j (d.rs.getD j rw0) d.ws := by
    rw [h1, h4]; simp only [readR, List.foldl_append, List.foldl_cons, List.foldl_nil]
  unfold readB
  rw [e]
  by_cases hj : j = k
  · rw [if_pos hj, if_pos (by omega), h6]
  · rw [if_neg hj, if_neg (by omega)]
theorem readB_nil {d : Dk} (h : d.ws = []) (k : Nat) (hk : k < d.rs.length) : readB d k = d.bs.getD k [] := by
  unfold readB Dk.bs
  rw [h]
  show (d.rs.getD k rw0).bs = _
  simp [hk]
theorem readB_re {d : Dk} (k : Nat) (hk : k < d.rs.length) : readB d.re k = d.bs.getD k [] := readB_nil (d := d.re) rfl k hk
theorem fresh_bs {n : Nat} {d : Dk} (h : IsFresh n d) : d.bs = List.replicate n (List.replicate 128 0) := by
  obtain ⟨_, _, _, h6, h7⟩ := h
  unfold Dk.bs
  rw [← h6]
  apply List.ext_getElem
  · simp
  · intro i h1 h2
    simp at h1
    simp
    exact (h7 _ (List.getElem_mem h1)).2
theorem wrote_bs {d d' : Dk} {k : Nat} {bs : List Int} (h : Wrote d k bs d') : d'.bs = d.bs := by unfold Dk.bs; rw [h.1]
theorem padR_get0 {bs : List Int} {j : Nat} (h : j < bs.length) : (padR bs).getD j 0 = bs.getD j 0 := by
  unfold padR
  simp [List.getD_eq_getElem?_getD, List.getElem?_append_left h]
theorem padR_full {bs : List Int} (h : bs.length = 128) : padR bs = bs := by unfold padR; rw [h]; simp
theorem dbl_rng {c : Int} (h0 : 0 ≤ c) (h1 : c ≤ 255) : ∀ z ∈ dbl c, 0 ≤ z ∧ z ≤ 255 := by
  intro z hz
  unfold dbl at hz
  rcases List.mem_or_eq_of_mem_set hz with h | h
  · rcases List.mem_or_eq_of_mem_set h with h | h
    · have := List.eq_of_mem_replicate h; omega
    · omega
  · omega
theorem dbl_get (c : Int) (j : Nat) (h : j < 128) : (dbl c).getD j 0 = if j = 0 ∨ j = 64 then c else 0 := by
  unfold dbl
  rw [List.getD_eq_getElem?_getD, List.getElem?_set]
  by_cases h1 : j = 64
  · subst h1; simp
  · rw [if_neg (by omega), List.getElem?_set]
    by_cases h2 : j = 0
    · subst h2; simp
    · rw [if_neg (by omega), List.getElem?_replicate, if_pos h, if_neg (by omega)]; rfl
theorem blk_src {w : World} {b : Nat} {zs : List Int} {t : TypeId} (h : Blk w b (bv zs).toArray t) : SrcW w (some ⟨b, 0, none⟩) zs.length zs.length zs := .inl ⟨rfl, .inr ⟨b, 0, rfl, h.lt, blk_bytes h⟩⟩
theorem sync_L40 (d : Dk) (w : World) (hd : Hid (DkOk w d)) (hq : Hid (d.run = true)) (hs : Hid (stopB d.left d.ws.length = true)) :
    Calls Try.prog 23 #[.agg d.c] w fun e w' => (∃ d', e = retD d' 40 ∧ DkOk w' d' ∧ Synced d d' ∧ ∀ b, b < w.heap.size → DkSep d b → DkSep d' b) ∧ Below w.heap.size w w' :=
  (sync_L d w hd hq).mono fun e w' ⟨⟨d', h1, h2⟩, hb⟩ => ⟨⟨d', by rw [h1, hs.out]; rfl, h2⟩, hb⟩
theorem sync_L0 (d : Dk) (w : World) (hd : Hid (DkOk w d)) (hq : Hid (d.run = true)) (hs : Hid (stopB d.left d.ws.length = false)) :
    Calls Try.prog 23 #[.agg d.c] w fun e w' => (∃ d', e = retD d' 0 ∧ DkOk w' d' ∧ Synced d d' ∧ ∀ b, b < w.heap.size → DkSep d b → DkSep d' b) ∧ Below w.heap.size w w' :=
  (sync_L d w hd hq).mono fun e w' ⟨⟨d', h1, h2⟩, hb⟩ => ⟨⟨d', by rw [h1, hs.out]; rfl, h2⟩, hb⟩
theorem tornB_at {old data : List Int} (h : data.length = 128) (h2 : old.length = 128) (j : Nat) (hj : j < 128) : (tornB old data).getD j 0 = if j < 64 then data.getD j 0 else old.getD j 0 := by
  unfold tornB
  by_cases h1 : j < 64
  · rw [if_pos h1, List.getD_eq_getElem?_getD, List.getElem?_append_left (by rw [List.length_take]; omega), List.getElem?_take, if_pos h1, List.getD_eq_getElem?_getD]
  · rw [if_neg h1, List.getD_eq_getElem?_getD, List.getElem?_append_right (by rw [List.length_take]; omega), List.getElem?_drop, List.length_take, List.getD_eq_getElem?_getD]
    congr 2
    omega
theorem zeros_at (j : Nat) : (List.replicate 128 (0 : Int)).getD j 0 = 0 := by
  rw [List.getD_eq_getElem?_getD, List.getElem?_replicate]
  split <;> rfl
end Go.Proofs.Ytackklbifppfeaa
