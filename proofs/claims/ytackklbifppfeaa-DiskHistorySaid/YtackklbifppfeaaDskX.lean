/- Each function of the program and of the reference, for every disk. -/
import Derived.Test.YtackklbifppfeaaDskSan
import Derived.Test.YtackklbifppfeaaDskSam
import Derived.Test.YtackklbifppfeaaDskFew
import Derived.Test.YtackklbifppfeaaDskArg
import Derived.Test.YtackklbifppfeaaDskRWrN
namespace Go.Proofs.Ytackklbifppfeaa
open Go.RowKit
set_option linter.unusedVariables false
set_option linter.unusedSimpArgs false

def Dk0 : Dk := ⟨none, 0, 0, none, 0, 0, 0, false, [], []⟩
theorem dk0_ok (w : World) : DkOk w Dk0 := ⟨⟨⟨rfl, by show 0 ≤ _; omega, fun r hr => (List.not_mem_nil hr).elim, .inl rfl⟩, ⟨rfl, by show 0 ≤ _; omega, fun r hr => (List.not_mem_nil hr).elim, .inl rfl⟩, by show (-9223372036854775808 : Int) ≤ 0; omega, by show (0 : Int) ≤ _; omega⟩, ⟨Nat.le_refl _, by show 0 ≤ _; omega, fun _ => ⟨rfl, rfl⟩⟩, ⟨Nat.le_refl _, by show 0 ≤ _; omega, fun _ => ⟨rfl, rfl⟩⟩⟩
/-- two disks with the same bytes -/
def Alike (d e : Dk) : Prop := d.ns = e.ns ∧ d.np = e.np ∧ d.left = e.left ∧ d.st = e.st ∧ SameRs d.rs e.rs ∧ SameWs d.ws e.ws
theorem Alike.rfl' (d : Dk) : Alike d d := ⟨rfl, rfl, rfl, rfl, fun _ _ => rfl, fun _ _ => ⟨rfl, rfl⟩⟩
theorem same_L (d e : Dk) (w : World) (hd : Hid (DkOk w d)) (he : Hid (DkOk w e)) (h : Hid (Alike d e)) :
    Calls Try.prog 14 #[.agg d.c, .agg e.c] w fun q w' => q = .returned (.bool true) ∧ Below w.heap.size w w' := by
  obtain ⟨h1, h2, h3, h4, h5, h6⟩ := h.out
  obtain ⟨a0, a1, a2, a3, a4, a5, a6, a7, a8, a9⟩ := d
  obtain ⟨b0, b1, b2, b3, b4, b5, b6, b7, b8, b9⟩ := e
  dsimp only at h1 h2 h3 h4 h5 h6
  subst h1 h2 h3 h4
  exact same_any a0 b0 a1 a2 b2 a3 b3 a4 a5 b5 a6 a7 a8 b8 a9 b9 w (Lib.hid hd.out.1) (Lib.hid he.out.1) (Lib.hid h5) (Lib.hid h6)
theorem sameRs_of {rs ss : List Rw} (h : rs.map (·.bs) = ss.map (·.bs)) : SameRs rs ss := fun k hk => by
  have hl : rs.length = ss.length := by have := congrArg List.length h; simpa using this
  have h1 : (rs.map (·.bs))[k]? = (ss.map (·.bs))[k]? := by rw [h]
  rw [List.getElem?_map, List.getElem?_map, List.getElem?_eq_getElem hk, List.getElem?_eq_getElem (by omega)] at h1
  simpa [List.getD_eq_getElem?_getD, List.getElem?_eq_getElem hk, List.getElem?_eq_getElem (show k < ss.length by omega)] using h1
theorem sameWs_of {ws us : List Wt} (h : ws.map (fun x => (x.pos, x.row.bs)) = us.map (fun x => (x.pos, x.row.bs))) : SameWs ws us := fun k hk => by
  have hl : ws.length = us.length := by have := congrArg List.length h; simpa using this
  have h1 : (ws.map (fun x => (x.pos, x.row.bs)))[k]? = (us.map (fun x => (x.pos, x.row.bs)))[k]? := by rw [h]
  rw [List.getElem?_map, List.getElem?_map, List.getElem?_eq_getElem hk, List.getElem?_eq_getElem (by omega)] at h1
  simpa [List.getD_eq_getElem?_getD, List.getElem?_eq_getElem hk, List.getElem?_eq_getElem (show k < us.length by omega)] using h1
theorem few_L (d : Dk) (w : World) (hd : Hid (DkOk w d)) :
    Calls Try.prog 11 #[.agg d.c] w fun e w' => IsTruth e ∧ Below w.heap.size w w' :=
  few_any d.ps d.ns d.cs d.pp d.np d.cp d.left d.st d.rs d.ws w (Lib.hid hd.out.1)
/-- what New answers -/
def NewX (a : Int) (x : Dk) (err : Int) : Prop := (1 ≤ a ∧ a ≤ 4096 ∧ err = 0 ∧ IsFresh a.toNat x) ∨ (¬ (1 ≤ a ∧ a ≤ 4096) ∧ err = 1 ∧ x = Dk0)
def NewXP (a : Int) (w' : World) (e : Ending) : Prop := ∃ x err, e = retD x err ∧ DkOk w' x ∧ NewX a x err
theorem newX_of {a : Int} {w w' : World} {e : Ending} (h : 1 ≤ a ∧ a ≤ 4096) (k : NewP a.toNat w' e) : NewXP a w' e := by
  obtain ⟨d, h1, h2, h3⟩ := k
  exact ⟨d, 0, h1, h2, .inl ⟨h.1, h.2, rfl, h3⟩⟩
theorem new_X (a : Int) (w : World) : Calls Try.prog 12 #[.int .i64 a] w fun e w' => NewXP a w' e ∧ Below w.heap.size w w' := by
  by_cases h : 1 ≤ a ∧ a ≤ 4096
  · obtain ⟨n, rfl⟩ : ∃ n : Nat, a = (n : Int) := ⟨a.toNat, by omega⟩
    exact (new_L n (by omega) (by omega) w).mono fun e w' hh => ⟨newX_of (w := w) h hh.1, hh.2⟩
  · exact (new_no a h w).mono fun e w' hh => ⟨⟨Dk0, 1, hh.1, dk0_ok _, .inr ⟨h, rfl, rfl⟩⟩, hh.2⟩
theorem rnew_X (a : Int) (w : World) : Calls Try.prog 13 #[.int .i64 a] w fun e w' => NewXP a w' e ∧ Below w.heap.size w w' := by
  by_cases h : 1 ≤ a ∧ a ≤ 4096
  · obtain ⟨n, rfl⟩ : ∃ n : Nat, a = (n : Int) := ⟨a.toNat, by omega⟩
    exact (rnew_yes n (by omega) (by omega) w).mono fun e w' hh => ⟨newX_of (w := w) h (isNew_L hh.1), hh.2⟩
  · exact (rnew_no a h w).mono fun e w' hh => ⟨⟨Dk0, 1, hh.1, dk0_ok _, .inr ⟨h, rfl, rfl⟩⟩, hh.2⟩
theorem newX_same {a : Int} {x y : Dk} {e f : Int} {w1 w2 : World} (h1 : DkOk w1 x) (h2 : DkOk w2 y) (hx : NewX a x e) (hy : NewX a y f) : Alike x y ∧ e = f := by
  rcases hx with ⟨a1, a2, rfl, hx⟩ | ⟨hn, rfl, rfl⟩
  · rcases hy with ⟨_, _, rfl, hy⟩ | ⟨hn, _⟩
    · refine ⟨⟨?_, ?_, by rw [hx.1, hy.1], by rw [hx.2.1, hy.2.1], sameRs_of ((fresh_bs hx).trans (fresh_bs hy).symm), by rw [hx.2.2.1, hy.2.2.1]; exact fun _ _ => ⟨rfl, rfl⟩⟩, rfl⟩
      · rw [h1.lens.1, h2.lens.1, hx.2.2.2.1, hy.2.2.2.1]
      · rw [h1.lens.2, h2.lens.2, hx.2.2.1, hy.2.2.1]
    · exact absurd ⟨a1, a2⟩ hn
  · rcases hy with ⟨a1, a2, _⟩ | ⟨_, rfl, rfl⟩
    · exact absurd ⟨a1, a2⟩ hn
    · exact ⟨Alike.rfl' _, rfl⟩
/-- is this a sector of a running disk -/
def Dk.at (d : Dk) (k : Int) : Bool := d.run && decide (0 ≤ k ∧ k < d.ns)
/-- what Write answers -/
def WriteX (d : Dk) (k : Int) (bs : List Int) (x : Dk) (err : Int) : Prop :=
  (d.at k = false ∧ err = 40 ∧ x = Dk0) ∨ (d.at k = true ∧ 128 < bs.length ∧ err = 1 ∧ x = Dk0) ∨ (d.at k = true ∧ bs.length ≤ 128 ∧ d.ws.length = 4096 ∧ err = 2 ∧ x = Dk0) ∨ (d.at k = true ∧ bs.length ≤ 128 ∧ d.ws.length < 4096 ∧ err = 0 ∧ Wrote d k.toNat bs x)
def WriteXP (B0 : Nat) (d : Dk) (k : Int) (bs : List Int) (w' : World) (e : Ending) : Prop := ∃ x err, e = retD x err ∧ DkOk w' x ∧ WriteX d k bs x err ∧ ∀ b, b < B0 → DkSep d b → DkSep x b
theorem dk0_sep (b : Nat) : DkSep Dk0 b := ⟨.inl rfl, .inl rfl, fun r hr => (List.not_mem_nil hr).elim, fun r hr => (List.not_mem_nil hr).elim⟩
theorem at_t {d : Dk} {k : Int} (h : d.at k = true) : d.run = true ∧ 0 ≤ k ∧ k < d.ns := by
  unfold Dk.at at h
  simp only [Bool.and_eq_true, decide_eq_true_eq] at h
  exact h
theorem write_X (d : Dk) (k : Int) (pb : Option Addr) (mb cb : Nat) (bs : List Int) (w : World) (hd : Hid (DkOk w d)) (hbs : Hid (SrcW w pb mb cb bs)) (hby : Hid (∀ z ∈ bs, 0 ≤ z ∧ z ≤ 255)) (hmb : mb ≤ 9223372036854775807) :
    Calls Try.prog 19 #[.agg d.c, .int .i64 k, .slice pb mb cb] w fun e w' => WriteXP w.heap.size d k bs w' e ∧ Below w.heap.size w w' := by
  have hl := hd.out.lens
  have hbl := hbs.out.len
  cases ha : d.at k with
  | false => exact (write_no k pb mb cb d.ps d.ns d.cs d.pp d.np d.cp d.left d.st d.rs d.ws w (Lib.hid hd.out.1) (Lib.hid ha)).mono fun e w' h => ⟨⟨Dk0, 40, h.1, dk0_ok _, .inl ⟨ha, rfl, rfl⟩, fun b _ _ => dk0_sep b⟩, h.2⟩
  | true =>
    obtain ⟨hr, h0, h1⟩ := at_t ha
    obtain ⟨n, rfl⟩ : ∃ n : Nat, k = (n : Int) := ⟨k.toNat, by omega⟩
    have hf := Dk.facts hr
    by_cases h2 : 128 < mb
    · exact (write_big n pb mb cb d.ps d.ns d.cs d.pp d.np d.cp d.left d.st d.rs d.ws w (Lib.hid hd.out.1) (Lib.hid hr) (by omega) h2 hmb).mono fun e w' h => ⟨⟨Dk0, 1, h.1, dk0_ok _, .inr (.inl ⟨ha, by omega, rfl, rfl⟩), fun b _ _ => dk0_sep b⟩, h.2⟩
    · by_cases h3 : d.ws.length < 4096
      · exact (write_L d n pb mb cb bs w hd (Lib.hid hr) (by omega) (by omega) (Lib.hid h3) hbs hby).mono fun e w' ⟨⟨x, q1, q2, q3, q4⟩, h⟩ => ⟨⟨x, 0, q1, q2, .inr (.inr (.inr ⟨ha, by omega, h3, rfl, q3⟩)), q4⟩, h⟩
      · exact (write_full n pb mb cb d.ps d.ns d.cs d.pp d.np d.cp d.left d.st d.rs d.ws w (Lib.hid hd.out.1) (Lib.hid hr) (by omega) (by omega) (by omega)).mono fun e w' h => ⟨⟨Dk0, 2, h.1, dk0_ok _, .inr (.inr (.inl ⟨ha, by omega, by omega, rfl, rfl⟩)), fun b _ _ => dk0_sep b⟩, h.2⟩
theorem rwrite_X (d : Dk) (k : Int) (pb : Option Addr) (mb cb : Nat) (bs : List Int) (w : World) (hd : Hid (DkOk w d)) (hbs : Hid (SrcW w pb mb cb bs)) (hby : Hid (∀ z ∈ bs, 0 ≤ z ∧ z ≤ 255)) (hmb : mb ≤ 9223372036854775807) :
    Calls Try.prog 20 #[.agg d.c, .int .i64 k, .slice pb mb cb] w fun e w' => WriteXP w.heap.size d k bs w' e ∧ Below w.heap.size w w' := by
  have hl := hd.out.lens
  have hbl := hbs.out.len
  cases ha : d.at k with
  | false => exact (rwrite_no k pb mb cb d.ps d.ns d.cs d.pp d.np d.cp d.left d.st d.rs d.ws w (Lib.hid hd.out.1) (Lib.hid ha)).mono fun e w' h => ⟨⟨Dk0, 40, h.1, dk0_ok _, .inl ⟨ha, rfl, rfl⟩, fun b _ _ => dk0_sep b⟩, h.2⟩
  | true =>
    obtain ⟨hr, h0, h1⟩ := at_t ha
    obtain ⟨n, rfl⟩ : ∃ n : Nat, k = (n : Int) := ⟨k.toNat, by omega⟩
    have hf := Dk.facts hr
    have hc := run_chk hr
    by_cases h2 : 128 < mb
    · exact (rwrite_big n pb mb cb d.ps d.ns d.cs d.pp d.np d.cp d.left d.st d.rs d.ws w (Lib.hid hd.out.1) hf.2.2.2 (Lib.hid hc) (by omega) h2 hmb).mono fun e w' h => ⟨⟨Dk0, 1, h.1, dk0_ok _, .inr (.inl ⟨ha, by omega, rfl, rfl⟩), fun b _ _ => dk0_sep b⟩, h.2⟩
    · by_cases h3 : d.ws.length < 4096
      · exact (rwrite_L d n pb mb cb bs w hd (Lib.hid hr) (by omega) (by omega) (Lib.hid h3) hbs hby).mono fun e w' ⟨⟨x, q1, q2, q3, q4⟩, h⟩ => ⟨⟨x, 0, q1, q2, .inr (.inr (.inr ⟨ha, by omega, h3, rfl, q3⟩)), q4⟩, h⟩
      · exact (rwrite_full n pb mb cb d.ps d.ns d.cs d.pp d.np d.cp d.left d.st d.rs d.ws w (Lib.hid hd.out.1) hf.2.2.2 (Lib.hid hc) (by omega) (by omega) (by omega)).mono fun e w' h => ⟨⟨Dk0, 2, h.1, dk0_ok _, .inr (.inr (.inl ⟨ha, by omega, by omega, rfl, rfl⟩)), fun b _ _ => dk0_sep b⟩, h.2⟩
theorem wrote_same {d x y : Dk} {k : Nat} {bs : List Int} {w1 w2 : World} (h1 : DkOk w1 x) (h2 : DkOk w2 y) (hx : Wrote d k bs x) (hy : Wrote d k bs y) : Alike x y := by
  obtain ⟨a1, a2, a3, r, a4, a5, a6⟩ := hx
  obtain ⟨b1, b2, b3, s, b4, b5, b6⟩ := hy
  refine ⟨by rw [h1.lens.1, h2.lens.1, a1, b1], by rw [h1.lens.2, h2.lens.2, a4, b4]; simp, by rw [a2, b2], by rw [a3, b3], by rw [a1, b1]; exact fun _ _ => rfl, sameWs_of ?_⟩
  rw [a4, b4, List.map_append, List.map_append]
  simp [a6, b6]
theorem writeX_same {d x y : Dk} {k : Int} {bs : List Int} {e f : Int} {w1 w2 : World} (h1 : DkOk w1 x) (h2 : DkOk w2 y) (hx : WriteX d k bs x e) (hy : WriteX d k bs y f) : Alike x y ∧ e = f := by
  rcases hx with ⟨a1, rfl, rfl⟩ | ⟨a1, a2, rfl, rfl⟩ | ⟨a1, a2, a3, rfl, rfl⟩ | ⟨a1, a2, a3, rfl, hx⟩ <;> rcases hy with ⟨b1, rfl, rfl⟩ | ⟨b1, b2, rfl, rfl⟩ | ⟨b1, b2, b3, rfl, rfl⟩ | ⟨b1, b2, b3, rfl, hy⟩
  all_goals first | exact ⟨Alike.rfl' _, rfl⟩ | exact ⟨wrote_same h1 h2 hx hy, rfl⟩ | (exfalso; rw [a1] at b1; exact Bool.noConfusion b1) | (exfalso; omega)
/-- what Read answers -/
def ReadX (d : Dk) (k : Int) (bs : List Int) (err : Int) : Prop := (d.at k = false ∧ err = 40 ∧ bs = []) ∨ (d.at k = true ∧ err = 0 ∧ bs = readB d k.toNat)
def ReadXP (d : Dk) (k : Int) (w' : World) (e : Ending) : Prop := ∃ q m c bs err, e = .returned (.tuple #[.slice q m c, .int .i64 err]) ∧ SrcW w' q m c bs ∧ ReadX d k bs err
theorem read_X (d : Dk) (k : Int) (w : World) (hd : Hid (DkOk w d)) :
    Calls Try.prog 21 #[.agg d.c, .int .i64 k] w fun e w' => ReadXP d k w' e ∧ Below w.heap.size w w' := by
  cases ha : d.at k with
  | false => exact (read_no k d.ps d.ns d.cs d.pp d.np d.cp d.left d.st d.rs d.ws w (Lib.hid hd.out.1) (Lib.hid ha)).mono fun e w' h => ⟨⟨none, 0, 0, [], 40, h.1, .inl ⟨rfl, .inl ⟨rfl, rfl, rfl⟩⟩, .inl ⟨ha, rfl, rfl⟩⟩, h.2⟩
  | true =>
    obtain ⟨hr, h0, h1⟩ := at_t ha
    obtain ⟨n, rfl⟩ : ∃ n : Nat, k = (n : Int) := ⟨k.toNat, by omega⟩
    refine (read_L d n w hd (Lib.hid hr) (by omega)).mono fun e w' ⟨⟨b, off, c', q1, q2, q3, q4, q5⟩, h⟩ => ⟨⟨some ⟨b, off, none⟩, 128, c', readB d n, 0, q1, .inl ⟨q3.symm, .inr ⟨b, off, rfl, q4, q2⟩⟩, .inr ⟨ha, rfl, rfl⟩⟩, h⟩
theorem rread_X (d : Dk) (k : Int) (w : World) (hd : Hid (DkOk w d)) :
    Calls Try.prog 22 #[.agg d.c, .int .i64 k] w fun e w' => ReadXP d k w' e ∧ Below w.heap.size w w' := by
  cases ha : d.at k with
  | false => exact (rread_no k d.ps d.ns d.cs d.pp d.np d.cp d.left d.st d.rs d.ws w (Lib.hid hd.out.1) (Lib.hid ha)).mono fun e w' h => ⟨⟨none, 0, 0, [], 40, h.1, .inl ⟨rfl, .inl ⟨rfl, rfl, rfl⟩⟩, .inl ⟨ha, rfl, rfl⟩⟩, h.2⟩
  | true =>
    obtain ⟨hr, h0, h1⟩ := at_t ha
    obtain ⟨n, rfl⟩ : ∃ n : Nat, k = (n : Int) := ⟨k.toNat, by omega⟩
    have hb := readB_row hd.out hr (k := n) (by omega)
    refine (rread_yes n d.ps d.ns d.cs d.pp d.np d.cp d.left d.st d.rs d.ws w (Lib.hid hd.out.1) (Dk.facts hr).2.2.2 (Lib.hid (run_chk hr)) (by omega)).mono fun e w' ⟨q1, h⟩ => ⟨⟨(readR n (d.rs.getD n rw0) d.ws).p, (readR n (d.rs.getD n rw0) d.ws).m, (readR n (d.rs.getD n rw0) d.ws).c, readB d n, 0, q1, (hb.1.below h).1, .inr ⟨ha, rfl, rfl⟩⟩, h⟩
theorem readX_same {d : Dk} {k : Int} {bs cs : List Int} {e f : Int} (hx : ReadX d k bs e) (hy : ReadX d k cs f) : bs = cs ∧ e = f := by
  rcases hx with ⟨a1, rfl, rfl⟩ | ⟨a1, rfl, rfl⟩ <;> rcases hy with ⟨b1, rfl, rfl⟩ | ⟨b1, rfl, rfl⟩
  all_goals first | exact ⟨rfl, rfl⟩ | (exfalso; rw [a1] at b1; exact Bool.noConfusion b1)
/-- what Sync answers -/
def SyncX (d : Dk) (x : Dk) (err : Int) : Prop := (d.run = false ∧ err = 40 ∧ x = Dk0) ∨ (d.run = true ∧ err = (if stopB d.left d.ws.length then 40 else 0) ∧ Synced d x)
def SyncXP (B0 : Nat) (d : Dk) (w' : World) (e : Ending) : Prop := ∃ x err, e = retD x err ∧ DkOk w' x ∧ SyncX d x err ∧ ∀ b, b < B0 → DkSep d b → DkSep x b
theorem sync_X (d : Dk) (w : World) (hd : Hid (DkOk w d)) :
    Calls Try.prog 23 #[.agg d.c] w fun e w' => SyncXP w.heap.size d w' e ∧ Below w.heap.size w w' := by
  cases ha : d.run with
  | false => exact (sync_no d.ps d.ns d.cs d.pp d.np d.cp d.left d.st d.rs d.ws w (Lib.hid hd.out.1) (Lib.hid ha)).mono fun e w' h => ⟨⟨Dk0, 40, h.1, dk0_ok _, .inl ⟨ha, rfl, rfl⟩, fun b _ _ => dk0_sep b⟩, h.2⟩
  | true => exact (sync_L d w hd (Lib.hid ha)).mono fun e w' ⟨⟨x, q1, q2, q3, q4⟩, h⟩ => ⟨⟨x, _, q1, q2, .inr ⟨ha, rfl, q3⟩, q4⟩, h⟩
theorem rsync_X (d : Dk) (w : World) (hd : Hid (DkOk w d)) :
    Calls Try.prog 24 #[.agg d.c] w fun e w' => SyncXP w.heap.size d w' e ∧ Below w.heap.size w w' := by
  cases ha : d.run with
  | false => exact (rsync_no d.ps d.ns d.cs d.pp d.np d.cp d.left d.st d.rs d.ws w (Lib.hid hd.out.1) (Lib.hid ha)).mono fun e w' h => ⟨⟨Dk0, 40, h.1, dk0_ok _, .inl ⟨ha, rfl, rfl⟩, fun b _ _ => dk0_sep b⟩, h.2⟩
  | true => exact (rsync_L d w hd (Lib.hid ha)).mono fun e w' ⟨⟨x, q1, q2, q3, q4⟩, h⟩ => ⟨⟨x, _, q1, q2, .inr ⟨ha, rfl, q3⟩, q4⟩, h⟩
theorem synced_same {d x y : Dk} {w1 w2 : World} (h1 : DkOk w1 x) (h2 : DkOk w2 y) (hx : Synced d x) (hy : Synced d y) : Alike x y := by
  obtain ⟨a1, a2, a3, a4, a5, a6⟩ := hx
  obtain ⟨b1, b2, b3, b4, b5, b6⟩ := hy
  exact ⟨by rw [h1.lens.1, h2.lens.1, a6, b6], by rw [h1.lens.2, h2.lens.2, a1, b1], by rw [a4, b4], by rw [a5, b5], sameRs_of (a2.trans b2.symm), by rw [a1, b1]; exact fun _ _ => ⟨rfl, rfl⟩⟩
theorem syncX_same {d x y : Dk} {e f : Int} {w1 w2 : World} (h1 : DkOk w1 x) (h2 : DkOk w2 y) (hx : SyncX d x e) (hy : SyncX d y f) : Alike x y ∧ e = f := by
  rcases hx with ⟨a1, rfl, rfl⟩ | ⟨a1, rfl, hx⟩ <;> rcases hy with ⟨b1, rfl, rfl⟩ | ⟨b1, rfl, hy⟩
  all_goals first | exact ⟨Alike.rfl' _, rfl⟩ | exact ⟨synced_same h1 h2 hx hy, rfl⟩ | (exfalso; rw [a1] at b1; exact Bool.noConfusion b1)
/-- what Stop answers -/
def StopX (d : Dk) (k : Int) (x : Dk) (err : Int) : Prop := (d.run = false ∧ err = 40 ∧ x = Dk0) ∨ (d.run = true ∧ ¬ (0 ≤ k ∧ k ≤ 65536) ∧ err = 1 ∧ x = Dk0) ∨ (d.run = true ∧ (0 ≤ k ∧ k ≤ 65536) ∧ err = 0 ∧ x = d.stop k)
def StopXP (d : Dk) (k : Int) (w' : World) (e : Ending) : Prop := ∃ x err, e = retD x err ∧ DkOk w' x ∧ StopX d k x err
theorem stopX_of (d : Dk) (k : Int) {w w' : World} {e : Ending} (hd : DkOk w d) (h1 : e = .returned (stopR d.ps d.ns d.cs d.pp d.np d.cp k d.st (runB d.left d.st d.rs d.ws))) (h2 : Below w.heap.size w w') : StopXP d k w' e := by
  cases ha : d.run with
  | false =>
    have hr : runB d.left d.st d.rs d.ws = false := ha
    rw [hr] at h1
    exact ⟨Dk0, 40, h1, dk0_ok _, .inl ⟨ha, rfl, rfl⟩⟩
  | true =>
    have hr : runB d.left d.st d.rs d.ws = true := ha
    rw [hr] at h1
    unfold stopR at h1
    rw [if_pos rfl] at h1
    by_cases hk : 0 ≤ k ∧ k ≤ 65536
    · rw [if_pos hk] at h1
      exact ⟨d.stop k, 0, h1, (hd.below h2).stop ⟨by omega, by omega⟩, .inr (.inr ⟨ha, hk, rfl, rfl⟩)⟩
    · rw [if_neg hk] at h1
      exact ⟨Dk0, 1, h1, dk0_ok _, .inr (.inl ⟨ha, hk, rfl, rfl⟩)⟩
theorem stop_X (d : Dk) (k : Int) (w : World) (hd : Hid (DkOk w d)) :
    Calls Try.prog 25 #[.agg d.c, .int .i64 k] w fun e w' => StopXP d k w' e ∧ Below w.heap.size w w' :=
  (stop_any k d.ps d.ns d.cs d.pp d.np d.cp d.left d.st d.rs d.ws w (Lib.hid hd.out.1)).mono fun e w' h => ⟨stopX_of d k hd.out h.1 h.2, h.2⟩
theorem rstop_X (d : Dk) (k : Int) (w : World) (hd : Hid (DkOk w d)) :
    Calls Try.prog 26 #[.agg d.c, .int .i64 k] w fun e w' => StopXP d k w' e ∧ Below w.heap.size w w' :=
  (rstop_any k d.ps d.ns d.cs d.pp d.np d.cp d.left d.st d.rs d.ws w (Lib.hid hd.out.1)).mono fun e w' h => ⟨stopX_of d k hd.out h.1 h.2, h.2⟩
theorem stopX_same {d x y : Dk} {k e f : Int} (hx : StopX d k x e) (hy : StopX d k y f) : Alike x y ∧ e = f := by
  rcases hx with ⟨a1, rfl, rfl⟩ | ⟨a1, a2, rfl, rfl⟩ | ⟨a1, a2, rfl, rfl⟩ <;> rcases hy with ⟨b1, rfl, rfl⟩ | ⟨b1, b2, rfl, rfl⟩ | ⟨b1, b2, rfl, rfl⟩
  all_goals first | exact ⟨Alike.rfl' _, rfl⟩ | (exfalso; rw [a1] at b1; exact Bool.noConfusion b1) | exact absurd b2 a2 | exact absurd a2 b2
theorem check_X (d : Dk) (w : World) (hd : Hid (DkOk w d)) :
    Calls Try.prog 15 #[.agg d.c] w fun e w' => e = .returned (.int .i64 (chkE d.left d.rs d.ws)) ∧ Below w.heap.size w w' := check_any d.ps d.ns d.cs d.pp d.np d.cp d.left d.st d.rs d.ws w (Lib.hid hd.out.1)
theorem rcheck_X (d : Dk) (w : World) (hd : Hid (DkOk w d)) :
    Calls Try.prog 16 #[.agg d.c] w fun e w' => e = .returned (.int .i64 (chkE d.left d.rs d.ws)) ∧ Below w.heap.size w w' := rcheck_any d.ps d.ns d.cs d.pp d.np d.cp d.left d.st d.rs d.ws w (Lib.hid hd.out.1)
theorem rrestart_L (d : Dk) (w : World) (hd : Hid (DkOk w d)) :
    Calls Try.prog 18 #[.agg d.c] w fun e w' => e = .returned (.agg (dskC d.ps d.ns d.cs none 0 0 (-1) false)) ∧ Below w.heap.size w w' :=
  rrestart_any d.ps d.ns d.cs d.pp d.np d.cp d.left d.st d.rs d.ws w (Lib.hid hd.out.1)
end Go.Proofs.Ytackklbifppfeaa
