/- What a sync leaves: rows, bytes. -/
import Derived.Test.YtackklbifppfeaaDskRdN
namespace Go.Proofs.Ytackklbifppfeaa
open Go.RowKit
set_option linter.unusedVariables false
set_option linter.unusedSimpArgs false

theorem take_snocD {α : Type} (l : List α) (k : Nat) (d : α) (h : k < l.length) : l.take (k + 1) = l.take k ++ [l.getD k d] := by
  rw [List.take_succ_eq_append_getElem h, List.getD_eq_getElem?_getD, List.getElem?_eq_getElem h]; rfl
def setRows (rs : List Rw) (ws : List Wt) : List Rw := ws.foldl (fun l x => l.set x.pos.toNat x.row) rs
def setB (bs : List (List Int)) (ws : List Wt) : List (List Int) := ws.foldl (fun l x => l.set x.pos.toNat x.row.bs) bs
theorem setRows_snoc (rs : List Rw) (ws : List Wt) (x : Wt) : setRows rs (ws ++ [x]) = (setRows rs ws).set x.pos.toNat x.row := by simp [setRows]
theorem setRows_len : ∀ (ws : List Wt) (rs : List Rw), (setRows rs ws).length = rs.length
  | [], _ => rfl
  | x :: ws, rs => by
    show (setRows (rs.set _ _) ws).length = _
    rw [setRows_len ws, List.length_set]
theorem setRows_map : ∀ (ws : List Wt) (rs : List Rw), (setRows rs ws).map (·.bs) = setB (rs.map (·.bs)) ws
  | [], _ => rfl
  | x :: ws, rs => by
    show (setRows (rs.set _ _) ws).map _ = setB ((rs.map (·.bs)).set _ _) ws
    rw [setRows_map ws, List.map_set]
theorem setRows_all {q : Rw → Prop} : ∀ (ws : List Wt) (rs : List Rw), (∀ r ∈ rs, q r) → (∀ x ∈ ws, q x.row) → ∀ r ∈ setRows rs ws, q r
  | [], _, h, _ => h
  | x :: ws, rs, h, k => by
    refine setRows_all (q := q) ws (rs.set x.pos.toNat x.row) (fun r hr => ?_) (fun y hy => k y (by simp [hy]))
    rcases List.mem_or_eq_of_mem_set hr with h1 | h1
    · exact h r h1
    · rw [h1]; exact k x (by simp)
theorem setB_len (ws : List Wt) (bs : List (List Int)) : (setB bs ws).length = bs.length := by
  induction ws generalizing bs with
  | nil => rfl
  | cons x ws ih =>
    show (setB (bs.set _ _) ws).length = _
    rw [ih, List.length_set]
def tornB (old data : List Int) : List Int := data.take 64 ++ old.drop 64
/-- does a sync stop -/
def stopB (left : Int) (np : Nat) : Bool := decide (0 ≤ left ∧ left < np)
/-- the bytes after a sync -/
def synB (bs : List (List Int)) (ws : List Wt) (left : Int) : List (List Int) :=
  if stopB left ws.length then (setB bs (ws.take left.toNat)).set (ws.getD left.toNat wt0).pos.toNat (tornB ((setB bs (ws.take left.toNat)).getD (ws.getD left.toNat wt0).pos.toNat []) (ws.getD left.toNat wt0).row.bs) else setB bs ws
def synL (left : Int) (np : Nat) : Int := if stopB left np then 0 else if 0 ≤ left then left - np else left
/-- a row that does not lie in this block -/
def SepR (r : Rw) (b : Nat) : Prop := r.m = 0 ∨ ∀ a, r.p = some a → a.block ≠ b
/-- what a sync answers -/
def IsSyn (B0 ns : Nat) (rs : List Rw) (ws : List Wt) (left : Int) (w' : World) (e : Ending) : Prop :=
  ∃ g cap rs', e = .returned (.tuple #[.agg (dskC (some ⟨g, 0, none⟩) ns cap none 0 0 (synL left ws.length) (stopB left ws.length)), .int .i64 (if stopB left ws.length then 40 else 0)]) ∧ SecsV w' (some ⟨g, 0, none⟩) ns rs' ∧ ns ≤ cap ∧ cap ≤ 9223372036854775807 ∧ (∀ r ∈ rs', r.m = 128) ∧ rs'.map (·.bs) = synB (rs.map (·.bs)) ws left ∧ B0 ≤ g ∧ ∀ b, b < B0 → (∀ r ∈ rs, SepR r b) → (∀ x ∈ ws, SepR x.row b) → ∀ r ∈ rs', SepR r b
/-- rows in a block, each cell open -/
def RowsIn (w : World) (b : Nat) (rs : List Rw) : Prop := b < w.heap.size ∧ ∀ j, j < rs.length → w.cell? ⟨b, j, none⟩ = some (rs.getD j rw0).v ∧ w.frozen? ⟨b, j, none⟩ = false
theorem RowsIn.below {w w' : World} {n b : Nat} {rs : List Rw} (h : RowsIn w b rs) (k : Below n w w') (hb : b < n) : RowsIn w' b rs :=
  ⟨Nat.lt_of_lt_of_le h.1 k.size, fun j hj => ⟨(k.cell (p := ⟨b, j, none⟩) hb).trans (h.2 j hj).1, (k.frozen (p := ⟨b, j, none⟩) hb).trans (h.2 j hj).2⟩⟩
theorem RowsIn.other {w : World} {b b' o : Nat} {v : Value} {rs : List Rw} (h : RowsIn w b rs) (hne : b ≠ b') : RowsIn (w.setCell ⟨b', o, none⟩ v) b rs :=
  ⟨by simpa using h.1, fun j hj => ⟨(World.cell?_of_block (a := ⟨b, j, none⟩) (Below.heap_setCell w ⟨b', o, none⟩ v b hne)).trans (h.2 j hj).1, by rw [World.frozen?_setCell]; exact (h.2 j hj).2⟩⟩
theorem RowsIn.set {w : World} {b k : Nat} {r : Rw} {rs : List Rw} (h : RowsIn w b rs) (hk : k < rs.length) : RowsIn (w.setCell ⟨b, k, none⟩ r.v) b (rs.set k r) := by
  refine ⟨by simpa using h.1, fun j hj => ?_⟩
  rw [List.length_set] at hj
  refine ⟨?_, by rw [World.frozen?_setCell]; exact (h.2 j hj).2⟩
  by_cases e : j = k
  · subst e
    rw [World.cell?_setCell_same' _ _ _ (by rw [(h.2 j hj).1]; rfl)]
    simp [hj]
  · rw [World.cell?_setCell_other _ _ _ _ (by intro e'; injection e' with _ h2; exact e h2.symm), (h.2 j hj).1]
    simp [List.getD_eq_getElem?_getD, List.getElem?_set, Ne.symm e]
theorem RowsIn.secs {w : World} {b n : Nat} {rs : List Rw} (h : RowsIn w b rs) (hn : n = rs.length) (hm : n ≤ 1000000) (ho : ∀ r ∈ rs, RwOk w r) : SecsV w (some ⟨b, 0, none⟩) n rs :=
  ⟨hn, by omega, ho, .inr ⟨b, 0, rfl, h.1, fun j hj => by rw [Nat.zero_add]; exact (h.2 j hj).1⟩⟩
theorem Blk.rows {w : World} {b : Nat} {t : TypeId} {rs : List Rw} (h : Blk w b (rs.map Rw.v).toArray t) : RowsIn w b rs :=
  ⟨h.lt, fun j hj => ⟨by rw [h.cell]; simp [hj], h.frozen j⟩⟩
theorem secs_src {w : World} {p : Option Addr} {n : Nat} {rs : List Rw} (h : SecsV w p n rs) (h0 : 0 < (rs.map Rw.v).length) : ∃ ad, p = some ad ∧ ∀ j v, (rs.map Rw.v)[j]? = some v → w.cell? (ad.add j) = some v := by
  rw [List.length_map] at h0
  obtain ⟨h1, h2, h4, h3 | ⟨b, off, rfl, hb, hc⟩⟩ := h
  · omega
  · refine ⟨_, rfl, fun j v hj => ?_⟩
    have hj' : j < rs.length := by have := (List.getElem?_eq_some_iff.1 hj).1; simpa using this
    rw [Addr.add_mid, hc j hj']
    rw [← hj]
    simp [hj']
theorem rows_one (rs : List Rw) : ∀ v ∈ rs.map Rw.v, v.oneCell' = true := by
  intro v hv
  obtain ⟨r, _, rfl⟩ := List.mem_map.1 hv
  rfl
theorem splice_all (a b : List Value) (h : b.length = a.length) : splice a 0 b = b := by
  unfold splice
  rw [List.take_zero, List.nil_append, Nat.zero_add, h, List.drop_of_length_le (Nat.le_refl _), List.append_nil]
/-- a row of 128 bytes -/
theorem row128 {w : World} {r : Rw} (h : RwOk w r) (hm : r.m = 128) : ∃ b off, r.p = some ⟨b, off, none⟩ ∧ b < w.heap.size ∧ BytesAt w b off r.bs ∧ r.bs.length = 128 ∧ 128 ≤ r.c ∧ r.c ≤ 9223372036854775807 := by
  obtain ⟨h1, h2, h3, h4, h5⟩ := h
  have hl := h1.len
  rcases h1 with ⟨_, ⟨_, h6, _⟩ | ⟨b, off, e, hb, hc⟩⟩ | ⟨_, h6, _⟩
  · omega
  · exact ⟨b, off, e, hb, hc, by omega, by omega, h5⟩
  · omega
end Go.Proofs.Ytackklbifppfeaa
