/- A history of writes and syncs on a disk of four sectors. -/
import Derived.Test.YtackklbifppfeaaDskTog
import Derived.Test.YtackklbifppfeaaDskHld
namespace Go.Proofs.Ytackklbifppfeaa
open Go.RowKit
set_option linter.unusedVariables false
set_option linter.unusedSimpArgs false

def sec (f s : Int) : List Int := ((List.replicate 128 0).set 0 f).set 64 s
theorem sec_eq (f s : Int) : sec f s = (List.replicate 64 0).set 0 f ++ (List.replicate 64 0).set 0 s := rfl
theorem sec_len (f s : Int) : (sec f s).length = 128 := by unfold sec; simp
theorem sec_at (f s : Int) : (sec f s).getD 0 0 = f ∧ (sec f s).getD 64 0 = s ∧ (sec f s).getD 1 0 = 0 ∧ (sec f s).getD 127 0 = 0 := ⟨rfl, rfl, rfl, rfl⟩
theorem dbl_sec (c : Int) : dbl c = sec c c := rfl
theorem torn_sec (f s b : Int) : tornB (sec f s) (dbl b) = sec b s := by
  unfold tornB
  rw [dbl_sec, sec_eq b b, sec_eq f s, sec_eq b s, List.take_left' (by simp), List.drop_left' (by simp)]
def q4 (a : Ac) : Nat := (a.pos % 4).toNat
theorem q4_lt (a : Ac) : q4 a < 4 := by unfold q4; omega
theorem q4_int (a : Ac) : a.pos % 4 = (q4 a : Int) := by unfold q4; omega
def wOf4 (a : Ac) : Wt := ⟨(q4 a : Int), ⟨none, 128, 0, dbl a.byt⟩⟩
def upd (l : List Int) (qs : List Ac) : List Int := qs.foldl (fun l a => l.set (q4 a) a.byt) l
theorem upd_snoc (l : List Int) (qs : List Ac) (a : Ac) : upd l (qs ++ [a]) = (upd l qs).set (q4 a) a.byt := by simp [upd]
theorem upd_len (qs : List Ac) : ∀ (l : List Int), (upd l qs).length = l.length := by
  induction qs with
  | nil => intro l; rfl
  | cons a qs ih => intro l; show (upd (l.set _ _) qs).length = _; rw [ih, List.length_set]
def Shape (bs : List (List Int)) (f s : List Int) : Prop := bs.length = 4 ∧ f.length = 4 ∧ s.length = 4 ∧ ∀ k, k < 4 → bs.getD k [] = sec (f.getD k 0) (s.getD k 0)
theorem getD_set {α : Type} (l : List α) (i j : Nat) (v d : α) (hj : j < l.length) : (l.set i v).getD j d = if i = j then v else l.getD j d := by
  rw [List.getD_eq_getElem?_getD, List.getElem?_set]
  by_cases h : i = j
  · subst h; rw [if_pos rfl, if_pos rfl, if_pos hj]; rfl
  · rw [if_neg h, if_neg h, List.getD_eq_getElem?_getD]
theorem shape_set {bs : List (List Int)} {f s : List Int} (h : Shape bs f s) (q : Nat) (b : Int) : Shape (bs.set q (dbl b)) (f.set q b) (s.set q b) := by
  obtain ⟨h1, h2, h3, h4⟩ := h
  refine ⟨by rw [List.length_set]; exact h1, by rw [List.length_set]; exact h2, by rw [List.length_set]; exact h3, fun k hk => ?_⟩
  rw [getD_set _ _ _ _ _ (by omega), getD_set _ _ _ _ _ (by omega), getD_set _ _ _ _ _ (by omega)]
  by_cases e : q = k
  · rw [if_pos e, if_pos e, if_pos e]; exact dbl_sec b
  · rw [if_neg e, if_neg e, if_neg e]; exact h4 k hk
theorem shape_torn {bs : List (List Int)} {f s : List Int} (h : Shape bs f s) (q : Nat) (hq : q < 4) (b : Int) : Shape (bs.set q (tornB (bs.getD q []) (dbl b))) (f.set q b) s := by
  obtain ⟨h1, h2, h3, h4⟩ := h
  refine ⟨by rw [List.length_set]; exact h1, by rw [List.length_set]; exact h2, h3, fun k hk => ?_⟩
  rw [getD_set _ _ _ _ _ (by omega), getD_set _ _ _ _ _ (by omega)]
  by_cases e : q = k
  · subst e; rw [if_pos rfl, if_pos rfl, h4 q hk]; exact torn_sec _ _ b
  · rw [if_neg e, if_neg e]; exact h4 k hk
theorem shape_all : ∀ (qs : List Ac) {bs : List (List Int)} {f s : List Int}, Shape bs f s → Shape (setB bs (qs.map wOf4)) (upd f qs) (upd s qs)
  | [], _, _, _, h => h
  | a :: qs, bs, f, s, h => by
    show Shape (setB (bs.set ((q4 a : Int)).toNat (dbl a.byt)) (qs.map wOf4)) (upd (f.set (q4 a) a.byt) qs) (upd (s.set (q4 a) a.byt) qs)
    rw [Int.toNat_natCast]
    exact shape_all qs (shape_set h _ _)
theorem shape_new : Shape (List.replicate 4 (List.replicate 128 0)) [0, 0, 0, 0] [0, 0, 0, 0] := by
  refine ⟨rfl, rfl, rfl, fun k hk => ?_⟩
  obtain rfl | rfl | rfl | rfl : k = 0 ∨ k = 1 ∨ k = 2 ∨ k = 3 := by omega
  all_goals rfl
theorem readB_setB' (k : Nat) : ∀ (ws : List Wt) (bs : List (List Int)) (r : Rw), k < bs.length → bs.getD k [] = r.bs → (∀ x ∈ ws, 0 ≤ x.pos) → (setB bs ws).getD k [] = (readR k r ws).bs
  | [], _, _, _, h, _ => h
  | x :: ws, bs, r, hk, h, hp => by
    show (setB (bs.set x.pos.toNat x.row.bs) ws).getD k [] = (readR k (if x.pos = (k : Int) then x.row else r) ws).bs
    have h0 := hp x (by simp)
    refine readB_setB' k ws _ _ (by rw [List.length_set]; exact hk) ?_ (fun y hy => hp y (by simp [hy]))
    by_cases e : x.pos = (k : Int)
    · rw [if_pos e, e, Int.toNat_natCast]
      simp [List.getD_eq_getElem?_getD, hk]
    · rw [if_neg e, ← h, List.getD_eq_getElem?_getD, List.getElem?_set, if_neg (by omega), List.getD_eq_getElem?_getD]
theorem readB_eq {d : Dk} (hr : d.run = true) {k : Nat} (hk : k < d.rs.length) : readB d k = (setB d.bs d.ws).getD k [] :=
  (readB_setB' k d.ws d.bs _ (by unfold Dk.bs; simpa using hk) (by unfold Dk.bs; simp [hk]) (fun x hx => ((Dk.facts hr).2.2.1 x hx).1.1)).symm
/-- where a history is -/
def Inv (d : Dk) (wt : List Ac) (room : Nat) (f s l : List Int) : Prop := d.run = true ∧ d.rs.length = 4 ∧ d.left = (room : Int) ∧ d.ws.map pbs = (wt.map wOf4).map pbs ∧ Shape d.bs f s ∧ f = s ∧ l = upd f wt
theorem inv_len {d : Dk} {wt : List Ac} {room : Nat} {f s l : List Int} (h : Inv d wt room f s l) : d.ws.length = wt.length := by
  have := congrArg List.length h.2.2.2.1
  simpa using this
theorem inv_holds {d : Dk} {wt : List Ac} {room : Nat} {f s l : List Int} (h : Inv d wt room f s l) : Holds d l l := fun k hk => by
  obtain ⟨h1, h2, h3, h4, h5, h6, h7⟩ := h
  have e : setB d.bs d.ws = setB d.bs (wt.map wOf4) := setB_congr _ _ _ h4
  rw [readB_eq h1 (by omega), e, (shape_all wt h5).2.2.2 k hk, h7, ← h6]
  exact sec_at _ _
theorem re_holds {d : Dk} {f s : List Int} (hn : d.rs.length = 4) (h : Shape d.bs f s) : Holds d.re f s := fun k hk => by
  rw [readB_re k (by omega), h.2.2.2 k hk]
  exact sec_at _ _
theorem inv_write {d x : Dk} {wt : List Ac} {room : Nat} {f s l : List Int} {a : Ac} (h : Inv d wt room f s l) (hw : Wrote d (q4 a) (dbl a.byt) x) (hn : wt.length < 4096) : Inv x (wt ++ [a]) room f s (l.set (q4 a) a.byt) := by
  have hl := inv_len h
  obtain ⟨h1, h2, h3, h4, h5, h6, h7⟩ := h
  have hr := wrote_run hw h1 (by rw [h2]; exact q4_lt a) (by omega)
  have hb := wrote_bs hw
  obtain ⟨b1, b2, b3, r, b4, b5, b6⟩ := hw
  refine ⟨hr, by rw [b1]; exact h2, by rw [b2]; exact h3, ?_, by rw [hb]; exact h5, h6, by rw [h7, upd_snoc]⟩
  rw [b4, List.map_append, h4, List.map_append, List.map_append]
  simp [b6, wOf4, pbs, padR_full (dbl_len a.byt)]
theorem inv_sync {d x : Dk} {wt : List Ac} {room : Nat} {f s l : List Int} (h : Inv d wt room f s l) (hs : Synced d x) (hl : wt.length ≤ room) : stopB d.left d.ws.length = false ∧ Inv x [] (room - wt.length) (upd f wt) (upd s wt) l := by
  have hn := inv_len h
  obtain ⟨h1, h2, h3, h4, h5, h6, h7⟩ := h
  have hst : stopB d.left d.ws.length = false := by unfold stopB; rw [h3, hn]; simp; omega
  refine ⟨hst, synced_run hs h1 hst, by rw [hs.2.2.2.2.2]; exact h2, ?_, by rw [hs.1]; rfl, ?_, by rw [h6], by rw [h7]; rfl⟩
  · rw [hs.2.2.2.1]; unfold synL; rw [hst, h3, hn]; simp; omega
  · rw [hs.2.1]; unfold synB; rw [hst]
    have e : setB d.bs d.ws = setB d.bs (wt.map wOf4) := setB_congr _ _ _ h4
    simp only [Bool.false_eq_true, if_false]
    rw [e]
    exact shape_all wt h5
theorem inv_stop {d x : Dk} {wt : List Ac} {room : Nat} {f s l : List Int} (h : Inv d wt room f s l) (hs : Synced d x) (hl : room < wt.length) : stopB d.left d.ws.length = true ∧ x.rs.length = 4 ∧ Shape x.bs (upd f (wt.take (room + 1))) (upd s (wt.take room)) := by
  have hn := inv_len h
  obtain ⟨h1, h2, h3, h4, h5, h6, h7⟩ := h
  have hst : stopB d.left d.ws.length = true := by unfold stopB; rw [h3, hn]; simp; omega
  refine ⟨hst, by rw [hs.2.2.2.2.2]; exact h2, ?_⟩
  rw [hs.2.1, synB_congr h4]
  have hst2 : stopB d.left (wt.map wOf4).length = true := by rw [List.length_map, ← hn]; exact hst
  unfold synB
  rw [if_pos hst2, h3, Int.toNat_natCast]
  have ht : (wt.map wOf4).take room = (wt.take room).map wOf4 := by rw [List.map_take]
  have hg : (wt.map wOf4).getD room wt0 = wOf4 (wt.getD room ac0) := by simp [hl]
  rw [ht, hg, take_snocD wt room ac0 hl, upd_snoc]
  show Shape ((setB d.bs ((wt.take room).map wOf4)).set ((q4 (wt.getD room ac0) : Int)).toNat (tornB ((setB d.bs ((wt.take room).map wOf4)).getD ((q4 (wt.getD room ac0) : Int)).toNat []) (dbl (wt.getD room ac0).byt))) _ _
  rw [Int.toNat_natCast]
  exact shape_torn (shape_all (wt.take room) h5) _ (q4_lt _) _
/-- rows of acts that the walk has made -/
def cellsA (x : Ac) : List Value := [.bool x.sy, .int .u8 x.pos, .int .u8 x.byt]
def rowA (l : List Ac) : List Value := (l.map cellsA).flatten
theorem rowA_cons (a : Ac) (l : List Ac) : rowA (a :: l) = cellsA a ++ rowA l := rfl
theorem rowA_snoc (l : List Ac) (a : Ac) : rowA (l ++ [a]) = rowA l ++ cellsA a := by simp [rowA]
theorem rowA_get : ∀ (l : List Ac) (k j : Nat), k < l.length → j < 3 → (rowA l)[k * 3 + j]? = (cellsA (l.getD k ac0))[j]?
  | [], k, j, hk, _ => by simp at hk
  | a :: l, 0, j, _, hj => by
    rw [rowA_cons, List.getElem?_append_left (by simp [cellsA] <;> omega)]; simp
  | a :: l, k + 1, j, hk, hj => by
    rw [rowA_cons, List.getElem?_append_right (by simp [cellsA] <;> omega)]
    have e : (k + 1) * 3 + j - (cellsA a).length = k * 3 + j := by simp [cellsA] <;> omega
    rw [e, rowA_get l k j (by simpa using hk) hj]; simp
def OwnA (w : World) (B : Nat) (v : Value) (l : List Ac) : Prop := w.ownsRow B 46 3 v l.length (rowA l)
theorem infoA : (Try.prog.info? 46).map (fun i => (i.zero, i.size, i.bytes)) = some (some (.agg #[.bool false, .int .u8 0, .int .u8 0]), 3, 3) := by kernel_rfl
theorem OwnA.below {w w' : World} {B : Nat} {v : Value} {l : List Ac} (h : OwnA w B v l) (k : Below w.heap.size w w') : OwnA w' B v l := by
  refine World.ownsRow.kept (row := none) h ⟨k.os, k.tape, k.output, k.size, fun i hi _ => k.block i hi⟩ ?_
  cases hv : v.ownBlock with
  | none => exact .inl rfl
  | some b => exact .inr (by simp)
theorem OwnA.set {w : World} {B b o : Nat} {v x : Value} {l : List Ac} (h : OwnA w B v l) (hb : b < B) : OwnA (w.setCell ⟨b, o, none⟩ x) B v l := by
  obtain ⟨h1, h2 | ⟨g, cap, cur, e1, e2, e3, e4⟩⟩ := h
  · exact ⟨h1, .inl h2⟩
  · exact ⟨h1, .inr ⟨g, cap, cur, e1, e2, (Below.heap_setCell w ⟨b, o, none⟩ x g (by show g ≠ b; omega)).trans e3, e4⟩⟩
theorem OwnA.val {w : World} {B : Nat} {v : Value} {l : List Ac} (h : OwnA w B v l) (hok : ∀ x ∈ l, AcOk x) (hm : l.length ≤ 1000000) : ∃ p cap, v = .slice p l.length cap ∧ ActsV w p l.length l ∧ (∀ a, p = some a → B ≤ a.block) := by
  have hown := h
  obtain ⟨h1, ⟨h2, h3⟩ | ⟨g, cap, cur, rfl, hBg, hg, hn, hm, hs, ht⟩⟩ := h
  · exact ⟨none, 0, by rw [h2, h3], ⟨rfl, by omega, hok, .inl h3⟩, fun a ha => by cases ha⟩
  · refine ⟨_, cap, rfl, ⟨rfl, by omega, hok, .inr ⟨g, 0, rfl, (Array.getElem?_eq_some_iff.1 hg).1, fun k hk => ?_⟩⟩, fun a ha => by cases ha; exact hBg⟩
    have each : ∀ j, j < 3 → ∀ u, (cellsA (l.getD k ac0))[j]? = some u → w.cell? ⟨g, 0 + k * 3 + j, none⟩ = some u := by
      intro j hj u hu
      have := World.ownsRow.cells hown (g := g) rfl (k * 3 + j) u ((rowA_get l k j hk hj).trans hu)
      rw [Addr.add_mid] at this
      rw [Nat.add_assoc]
      exact this
    exact ⟨each 0 (by omega) _ rfl, each 1 (by omega) _ rfl, each 2 (by omega) _ rfl⟩
theorem ownA_empty (w : World) (B : Nat) (h : B ≤ w.heap.size) : OwnA (w.alloc (.cells #[] 46)) B (.slice (some ⟨w.heap.size, 0, none⟩) 0 0) [] :=
  World.ownsRow_made w #[] 0 h (by unfold maxLen; omega) rfl
theorem appA {ops : Array Oper} {rest : List Oper} {o : Oper} {a : Act} {w : World} {Q : Exit → Act → World → Prop} (hgd : o.guard = none) (s x : Operand)
    (ho : o.op = .call { callee := .builtin .append, args := #[s, x], argTypes := #[43, 43] }) (B : Nat) (v : Value) (l : List Ac) (hs : a.eval s = v) (hown : OwnA w B v l)
    (b : Nat) (at' : Ac) (hx : a.eval x = .slice (some ⟨b, 0, none⟩) 1 1) (hb : Blk w b (cellsA at').toArray 46) (hlen : l.length ≤ 1000000) (hB : B ≤ w.heap.size)
    (h : ∀ v' w', OwnA w' B v' (l ++ [at']) → w.grownBy w' v.ownBlock → wpList Try.prog ops Q rest (a.put o.dst v') w') : wpList Try.prog ops Q (o :: rest) a w := by
  obtain ⟨i0, hi, hz0, hz1, hz2⟩ := info_parts infoA
  refine wpList_append_own _ hgd s x 43 ho B 46 i0 (.agg #[.bool false, .int .u8 0, .int .u8 0]) 3 3 Try.underlying43 hi hz0 hz1 hz2 rfl (by decide) v l.length (rowA l) hs hown ⟨b, 0, none⟩ 1 1 (cellsA at') hx rfl ?_ ?_ (by unfold maxLen; omega) (by omega) hB ?_
  · intro j u hj
    rw [Addr.add_mid, Nat.zero_add, hb.cell j, List.getElem?_toArray]; exact hj
  · intro u hu
    simp only [cellsA, List.mem_cons, List.not_mem_nil, or_false] at hu
    rcases hu with rfl | rfl | rfl <;> rfl
  · intro v' w' h1 h2 _
    refine h v' w' ?_ h2
    unfold OwnA
    rw [List.length_append, rowA_snoc]
    exact h1
theorem bel_grownA {w0 w w' : World} {B : Nat} {v : Value} {l : List Ac} (k : Below B w0 w) (ho : OwnA w B v l) (hg : w.grownBy w' v.ownBlock) (hB : B ≤ w.heap.size) : Below B w0 w' :=
  k.trans ⟨hg.os, hg.tape, hg.output, hg.size, fun i hi => hg.block i (by omega) (by intro e; have := (World.ownsRow.lt ho) i e.symm; omega)⟩
theorem rwOk_off {w w' : World} {r : Rw} {b : Nat} (h : RwOk w r) (hs : SepR r b) (hz : w.heap.size ≤ w'.heap.size) (k : ∀ i, i < w.heap.size → i ≠ b → w'.heap[i]? = w.heap[i]?) : RwOk w' r := by
  obtain ⟨h1, h2⟩ := h
  refine ⟨?_, h2⟩
  rcases h1 with ⟨h3, ⟨h5, h6, h7⟩ | ⟨b', off, e, hb', hc⟩⟩ | h3
  · exact .inl ⟨h3, .inl ⟨h5, h6, h7⟩⟩
  · rcases hs with hs | hs
    · have : r.bs = [] := List.eq_nil_of_length_eq_zero (by omega)
      exact .inl ⟨h3, .inr ⟨b', off, e, by omega, fun j hj => by rw [this] at hj; simp at hj⟩⟩
    · exact .inl ⟨h3, .inr ⟨b', off, e, by omega, fun j hj => (World.cell?_of_block (a := ⟨b', off + j, none⟩) (k b' hb' (hs _ e))).trans (hc j hj)⟩⟩
  · exact .inr h3
theorem DkOk.off {w w' : World} {d : Dk} {b : Nat} (h : DkOk w d) (hs : DkSep d b) (hz : w.heap.size ≤ w'.heap.size) (k : ∀ i, i < w.heap.size → i ≠ b → w'.heap[i]? = w.heap[i]?) : DkOk w' d := by
  obtain ⟨⟨⟨a1, a2, a3, a4⟩, ⟨b1, b2, b3, b4⟩, c1⟩, c2, c3⟩ := h
  obtain ⟨s1, s2, s3, s4⟩ := hs
  refine ⟨⟨⟨a1, a2, fun r hr => rwOk_off (a3 r hr) (s3 r hr) hz k, ?_⟩, ⟨b1, b2, fun x hx => ⟨(b3 x hx).1, rwOk_off (b3 x hx).2 (s4 x hx) hz k⟩, ?_⟩, c1⟩, c2, c3⟩
  · rcases a4 with h0 | ⟨b', off, e, hb', hc⟩
    · exact .inl h0
    · rcases s1 with h0 | h0
      · exact .inl h0
      · exact .inr ⟨b', off, e, by omega, fun j hj => (World.cell?_of_block (a := ⟨b', off + j, none⟩) (k b' hb' (h0 _ e))).trans (hc j hj)⟩
  · rcases b4 with h0 | ⟨b', off, e, hb', hc⟩
    · exact .inl h0
    · rcases s2 with h0 | h0
      · exact .inl h0
      · exact .inr ⟨b', off, e, by omega, fun j hj => ⟨(World.cell?_of_block (a := ⟨b', off + j * 2, none⟩) (k b' hb' (h0 _ e))).trans (hc j hj).1, (World.cell?_of_block (a := ⟨b', off + j * 2 + 1, none⟩) (k b' hb' (h0 _ e))).trans (hc j hj).2⟩⟩
/-- a disk that does not use the block of a slice -/
def SepV (d : Dk) (v : Value) : Prop := ∀ g, v.ownBlock = some g → DkSep d g
theorem DkOk.grown {w w' : World} {d : Dk} {v : Value} (h : DkOk w d) (hs : SepV d v) (k : w.grownBy w' v.ownBlock) : DkOk w' d := by
  cases hv : v.ownBlock with
  | none => rw [hv] at k; exact h.below (gr_none k)
  | some g => rw [hv] at k; exact h.off (hs g hv) k.size (fun i hi hne => k.block i hi (by intro e; injection e with e; exact hne e))
/-- where the new slice lies -/
def LiesA (w : World) (v v' : Value) : Prop := ∀ g, v'.ownBlock = some g → v.ownBlock = some g ∨ w.heap.size ≤ g
theorem SepV.lies {w : World} {d : Dk} {v v' : Value} (h : SepV d v) (hd : DkOk w d) (k : LiesA w v v') : SepV d v' := fun g hg => by
  rcases k g hg with h1 | h1
  · exact h g h1
  · exact hd.sep h1
theorem appA' {ops : Array Oper} {rest : List Oper} {o : Oper} {a : Act} {w : World} {Q : Exit → Act → World → Prop} (hgd : o.guard = none) (s x : Operand)
    (ho : o.op = .call { callee := .builtin .append, args := #[s, x], argTypes := #[43, 43] }) (B : Nat) (v : Value) (l : List Ac) (hs : a.eval s = v) (hown : OwnA w B v l)
    (b : Nat) (at' : Ac) (hx : a.eval x = .slice (some ⟨b, 0, none⟩) 1 1) (hb : Blk w b (cellsA at').toArray 46) (hlen : l.length ≤ 1000000) (hB : B ≤ w.heap.size)
    (h : ∀ v' w', OwnA w' B v' (l ++ [at']) → w.grownBy w' v.ownBlock → LiesA w v v' → wpList Try.prog ops Q rest (a.put o.dst v') w') : wpList Try.prog ops Q (o :: rest) a w := by
  obtain ⟨i0, hi, hz0, hz1, hz2⟩ := info_parts infoA
  have hcell : ∀ j u, (cellsA at')[j]? = some u → w.cell? ((⟨b, 0, none⟩ : Addr).add j) = some u := fun j u hj => by rw [Addr.add_mid, Nat.zero_add, hb.cell j, List.getElem?_toArray]; exact hj
  have hone : ∀ u ∈ cellsA at', u.oneCell' = true := fun u hu => by
    simp only [cellsA, List.mem_cons, List.not_mem_nil, or_false] at hu
    rcases hu with rfl | rfl | rfl <;> rfl
  have hcs : (Value.agg #[.bool false, .int .u8 0, .int .u8 0]).cells.size = 3 := rfl
  have b1 : l.length + 1 ≤ maxLen := by unfold maxLen; omega
  have b2 : (l.length + 1) * 3 ≤ 140737488355328 := by omega
  obtain ⟨v', w', hrun, o1, g1, _⟩ := run_append_own (P := Try.prog) w B 43 o.type 46 i0 _ 3 3 Try.underlying43 hi hz0 hz1 hz2 hcs (by decide) v l.length (rowA l) hown ⟨b, 0, none⟩ 1 1 (cellsA at') rfl hcell hone b1 b2 hB
  have hlies : LiesA w v v' := by
    intro g hg
    have hown2 := hown
    obtain ⟨h1, h2⟩ := hown2
    rcases h2 with ⟨hv, h0⟩ | ⟨g0, cap, cur, hv, hbg, hgc, hn, hm, hsz, htk⟩
    · subst hv
      obtain ⟨v2, w2, hrun2, o2, _, _⟩ := run_append_own (P := Try.prog) w w.heap.size 43 o.type 46 i0 _ 3 3 Try.underlying43 hi hz0 hz1 hz2 hcs (by decide) (.slice none 0 0) l.length (rowA l) ⟨h1, .inl ⟨rfl, h0⟩⟩ ⟨b, 0, none⟩ 1 1 (cellsA at') rfl hcell hone b1 b2 (Nat.le_refl _)
      rw [hrun] at hrun2
      injection hrun2 with e1 e2
      subst e1
      exact .inr ((World.ownsRow.lt o2 g hg).1)
    · subst hv
      by_cases hr : l.length + 1 ≤ cap
      · have hrun2 := run_append_room (P := Try.prog) w 43 o.type 46 i0 Try.underlying43 hi g0 l.length cap cur hgc ⟨b, 0, none⟩ 1 1 (cellsA at') (by rw [hz1]; rfl) hcell hone hr (by rw [hz1, hsz]; show l.length * 3 + 3 ≤ _; omega)
        rw [hrun] at hrun2
        injection hrun2 with e1 e2
        subst e1
        exact .inl hg
      · obtain ⟨v2, w2, hrun2, o2, _⟩ := run_append_arg_grows (P := Try.prog) w 43 o.type 46 i0 _ 3 3 Try.underlying43 hi hz0 hz1 hz2 hcs (by decide) ⟨g0, 0, none⟩ l.length cap (rowA l) h1 (hown.cells (g := g0) rfl) ⟨b, 0, none⟩ 1 1 (cellsA at') rfl hcell (by omega) b1 b2
        rw [hrun] at hrun2
        injection hrun2 with e1 e2
        subst e1
        exact .inr ((World.ownsRow.lt o2 g hg).1)
  refine wpList_plain hgd fun _ hK => ?_
  unfold Oper.wp execOp
  simp only [ho, resolve, invoke, builtin, Sem.run_bind, Sem.run_pure, Result.andThen_ok, List.map_toArray, List.map_cons, List.map_nil, hs, hx, hrun]
  refine hK _ _ (h v' w' ?_ g1 hlies)
  unfold OwnA
  rw [List.length_append, rowA_snoc]
  exact o1
theorem a4_set {ls : List Int} {q : Nat} {b : Int} (h : ls.length = 4) (hq : q < 4) : (A4 ls).setIfInBounds q (.int .u8 b) = A4 (ls.set q b) := by
  obtain ⟨a0, a1, a2, a3, rfl⟩ : ∃ a0 a1 a2 a3, ls = [a0, a1, a2, a3] := by
    match ls, h with
    | [a0, a1, a2, a3], _ => exact ⟨a0, a1, a2, a3, rfl⟩
  obtain rfl | rfl | rfl | rfl : q = 0 ∨ q = 1 ∨ q = 2 ∨ q = 3 := by omega
  all_goals rfl
theorem inv_lens {d : Dk} {wt : List Ac} {room : Nat} {f s l : List Int} (h : Inv d wt room f s l) : f.length = 4 ∧ s.length = 4 ∧ l.length = 4 := by
  obtain ⟨h1, h2, h3, h4, h5, h6, h7⟩ := h
  exact ⟨h5.2.1, h5.2.2.1, by rw [h7, upd_len]; exact h5.2.1⟩
theorem Blk.gr {W W' : World} {b : Nat} {c : Array Value} {t : TypeId} {v : Value} {B : Nat} {l : List Ac} (h : Blk W b c t) (ho : OwnA W B v l) (k : W.grownBy W' v.ownBlock) (hb : b < B) : Blk W' b c t :=
  (k.block b h.lt (by intro e; have := (World.ownsRow.lt ho) b e.symm; omega)).trans h
theorem ActsV.gr {W W' : World} {p : Option Addr} {n : Nat} {qs : List Ac} {v : Value} {B : Nat} {l : List Ac} (h : ActsV W p n qs) (ho : OwnA W B v l) (k : W.grownBy W' v.ownBlock) (hb : n ≠ 0 → ∀ a, p = some a → a.block < B) : ActsV W' p n qs := by
  obtain ⟨h1, h2, h4, h3⟩ := h
  refine ⟨h1, h2, h4, ?_⟩
  by_cases h0 : n = 0
  · exact .inl h0
  rcases h3 with h3 | ⟨b', off, rfl, hb', hc⟩
  · exact .inl h3
  · have hlt := hb h0 _ rfl
    have hk : ∀ j, W'.cell? ⟨b', j, none⟩ = W.cell? ⟨b', j, none⟩ := fun j => World.cell?_of_block (a := ⟨b', j, none⟩) (k.block b' hb' (by intro e; have := (World.ownsRow.lt ho) b' e.symm; simp at hlt; omega))
    exact .inr ⟨b', off, rfl, Nat.lt_of_lt_of_le hb' k.size, fun j hj => ⟨(hk _).trans (hc j hj).1, (hk _).trans (hc j hj).2.1, (hk _).trans (hc j hj).2.2⟩⟩
end Go.Proofs.Ytackklbifppfeaa
