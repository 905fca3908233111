/- A disk as one thing; what each function of the program does with it. -/
import Derived.Test.YtackklbifppfeaaDskRSS
import Derived.Test.YtackklbifppfeaaDskRNew
import Derived.Test.YtackklbifppfeaaDskDbl
import Derived.Test.YtackklbifppfeaaDskRStp
namespace Go.Proofs.Ytackklbifppfeaa
open Go.RowKit
set_option linter.unusedVariables false
set_option linter.unusedSimpArgs false

structure Dk where
  ps : Option Addr
  ns : Nat
  cs : Nat
  pp : Option Addr
  np : Nat
  cp : Nat
  left : Int
  st : Bool
  rs : List Rw
  ws : List Wt
abbrev Dk.c (d : Dk) : Array Value := dskC d.ps d.ns d.cs d.pp d.np d.cp d.left d.st
def Dk.bs (d : Dk) : List (List Int) := d.rs.map (·.bs)
def DkOk (w : World) (d : Dk) : Prop := DskV w d.ps d.ns d.pp d.np d.left d.rs d.ws ∧ (d.np ≤ d.cp ∧ d.cp ≤ 9223372036854775807 ∧ (d.pp = none → d.np = 0 ∧ d.cp = 0)) ∧ (d.ns ≤ d.cs ∧ d.cs ≤ 9223372036854775807 ∧ (d.ps = none → d.ns = 0 ∧ d.cs = 0))
theorem DkOk.below {w w' : World} {d : Dk} (h : DkOk w d) (k : Below w.heap.size w w') : DkOk w' d := ⟨h.1.below k, h.2⟩
def Dk.run (d : Dk) : Bool := runB d.left d.st d.rs d.ws
theorem run_mk {left : Int} {rs : List Rw} {ws : List Wt} (h1 : 1 ≤ rs.length ∧ rs.length ≤ 4096 ∧ ws.length ≤ 4096 ∧ -1 ≤ left ∧ left ≤ 65536) (h2 : ∀ r ∈ rs, r.m = 128) (h3 : ∀ x ∈ ws, (0 ≤ x.pos ∧ x.pos < rs.length) ∧ x.row.m = 128) : runB left false rs ws = true := by
  unfold runB chkB
  simp only [Bool.and_eq_true, List.all_eq_true]
  refine ⟨⟨?_, fun r hr => ?_, fun x hx => ?_⟩, rfl⟩
  · unfold numsB; simpa using h1
  · unfold rowB; simpa using h2 r hr
  · unfold wtB; have := h3 x hx; simp; omega
theorem Dk.facts {d : Dk} (h : d.run = true) : (1 ≤ d.rs.length ∧ d.rs.length ≤ 4096 ∧ d.ws.length ≤ 4096 ∧ -1 ≤ d.left ∧ d.left ≤ 65536) ∧ (∀ r ∈ d.rs, r.m = 128) ∧ (∀ x ∈ d.ws, (0 ≤ x.pos ∧ x.pos < d.rs.length) ∧ x.row.m = 128) ∧ d.st = false := run_facts h
theorem Dk.mk_run {d : Dk} (h1 : 1 ≤ d.rs.length ∧ d.rs.length ≤ 4096 ∧ d.ws.length ≤ 4096 ∧ -1 ≤ d.left ∧ d.left ≤ 65536) (h2 : ∀ r ∈ d.rs, r.m = 128) (h3 : ∀ x ∈ d.ws, (0 ≤ x.pos ∧ x.pos < d.rs.length) ∧ x.row.m = 128) (h4 : d.st = false) : d.run = true := by
  unfold Dk.run; rw [h4]; exact run_mk h1 h2 h3
theorem DkOk.lens {w : World} {d : Dk} (h : DkOk w d) : d.ns = d.rs.length ∧ d.np = d.ws.length := ⟨h.1.1.1, h.1.2.1.1⟩
/-- a disk that does not use this block -/
def DkSep (d : Dk) (b : Nat) : Prop := (d.ns = 0 ∨ ∀ a, d.ps = some a → a.block ≠ b) ∧ (d.np = 0 ∨ ∀ a, d.pp = some a → a.block ≠ b) ∧ (∀ r ∈ d.rs, SepR r b) ∧ ∀ x ∈ d.ws, SepR x.row b
theorem sepR_new {w : World} {r : Rw} {b : Nat} (h : RwOk w r) (hb : w.heap.size ≤ b) : SepR r b := by
  rcases h.1 with ⟨_, ⟨_, h6, _⟩ | ⟨b', off, e, hb', hc⟩⟩ | ⟨_, h6, _⟩
  · exact .inl h6
  · refine .inr fun a ha => ?_
    rw [e] at ha; cases ha
    show b' ≠ b; omega
  · exact .inl h6
/-- a block that is made later -/
theorem DkOk.sep {w : World} {d : Dk} {b : Nat} (h : DkOk w d) (hb : w.heap.size ≤ b) : DkSep d b := by
  obtain ⟨⟨⟨a1, a2, a3, a4⟩, ⟨b1, b2, b3, b4⟩, _⟩, _, _⟩ := h
  refine ⟨a4.imp id ?_, b4.imp id ?_, fun r hr => sepR_new (a3 r hr) hb, fun x hx => sepR_new (b3 x hx).2 hb⟩
  · rintro ⟨b', off, e, hb', _⟩ a ha
    rw [e] at ha; cases ha
    show b' ≠ b; omega
  · rintro ⟨b', off, e, hb', _⟩ a ha
    rw [e] at ha; cases ha
    show b' ≠ b; omega
theorem rwOk_set {w : World} {r : Rw} {b o : Nat} {v : Value} (h : RwOk w r) (hs : SepR r b) : RwOk (w.setCell ⟨b, o, none⟩ v) r := by
  obtain ⟨h1, h2⟩ := h
  refine ⟨?_, h2⟩
  rcases hs with hs | hs
  · rcases h1 with ⟨h3, ⟨h5, h6, h7⟩ | ⟨b', off, e, hb', hc⟩⟩ | h3
    · exact .inl ⟨h3, .inl ⟨h5, h6, h7⟩⟩
    · have : r.bs = [] := List.eq_nil_of_length_eq_zero (by omega)
      exact .inl ⟨h3, .inr ⟨b', off, e, by simpa using hb', fun j hj => by rw [this] at hj; simp at hj⟩⟩
    · exact .inr h3
  · rcases h1 with ⟨h3, ⟨h5, h6, h7⟩ | ⟨b', off, e, hb', hc⟩⟩ | h3
    · exact .inl ⟨h3, .inl ⟨h5, h6, h7⟩⟩
    · exact .inl ⟨h3, .inr ⟨b', off, e, by simpa using hb', hc.set (hs _ e)⟩⟩
    · exact .inr h3
theorem DkOk.set {w : World} {d : Dk} {b o : Nat} {v : Value} (h : DkOk w d) (hs : DkSep d b) : DkOk (w.setCell ⟨b, o, none⟩ v) d := by
  obtain ⟨⟨⟨a1, a2, a3, a4⟩, ⟨b1, b2, b3, b4⟩, c1⟩, c2, c3⟩ := h
  obtain ⟨s1, s2, s3, s4⟩ := hs
  refine ⟨⟨⟨a1, a2, fun r hr => rwOk_set (a3 r hr) (s3 r hr), ?_⟩, ⟨b1, b2, fun x hx => ⟨(b3 x hx).1, rwOk_set (b3 x hx).2 (s4 x hx)⟩, ?_⟩, c1⟩, c2, c3⟩
  · rcases a4 with h0 | ⟨b', off, e, hb', hc⟩
    · exact .inl h0
    · rcases s1 with h0 | h0
      · exact .inl h0
      · exact .inr ⟨b', off, e, by simpa using hb', fun j hj => (World.cell?_of_block (a := ⟨b', off + j, none⟩) (Below.heap_setCell w ⟨b, o, none⟩ v b' (h0 _ e))).trans (hc j hj)⟩
  · rcases b4 with h0 | ⟨b', off, e, hb', hc⟩
    · exact .inl h0
    · rcases s2 with h0 | h0
      · exact .inl h0
      · exact .inr ⟨b', off, e, by simpa using hb', fun j hj => ⟨(World.cell?_of_block (a := ⟨b', off + j * 2, none⟩) (Below.heap_setCell w ⟨b, o, none⟩ v b' (h0 _ e))).trans (hc j hj).1, (World.cell?_of_block (a := ⟨b', off + j * 2 + 1, none⟩) (Below.heap_setCell w ⟨b, o, none⟩ v b' (h0 _ e))).trans (hc j hj).2⟩⟩
/-- after a write -/
def Wrote (d : Dk) (k : Nat) (bs : List Int) (d' : Dk) : Prop := d'.rs = d.rs ∧ d'.left = d.left ∧ d'.st = d.st ∧ ∃ r, d'.ws = d.ws ++ [⟨k, r⟩] ∧ r.m = 128 ∧ r.bs = padR bs
/-- after a sync -/
def Synced (d d' : Dk) : Prop := d'.ws = [] ∧ d'.bs = synB d.bs d.ws d.left ∧ (∀ r ∈ d'.rs, r.m = 128) ∧ d'.left = synL d.left d.ws.length ∧ d'.st = stopB d.left d.ws.length ∧ d'.rs.length = d.rs.length
abbrev retD (d : Dk) (e : Int) : Ending := .returned (.tuple #[.agg d.c, .int .i64 e])
def zeroD : Array Value := #[.slice none 0 0, .slice none 0 0, .int .i64 0, .bool false]
/-- a new disk -/
def IsFresh (n : Nat) (d : Dk) : Prop := d.left = -1 ∧ d.st = false ∧ d.ws = [] ∧ d.rs.length = n ∧ ∀ r ∈ d.rs, r.m = 128 ∧ r.bs = List.replicate 128 0
def NewP (n : Nat) (w' : World) (e : Ending) : Prop := ∃ d, e = retD d 0 ∧ DkOk w' d ∧ IsFresh n d
theorem isNew_L {n : Nat} {w' : World} {e : Ending} (h : IsNew n w' e) : NewP n w' e := by
  obtain ⟨g, cap, rs, rfl, h1, h2, h3, h4⟩ := h
  exact ⟨⟨some ⟨g, 0, none⟩, n, cap, none, 0, 0, -1, false, rs, []⟩, rfl, ⟨⟨h1, ⟨rfl, by show 0 ≤ _; omega, fun r hr => (List.not_mem_nil hr).elim, .inl rfl⟩, by show (-9223372036854775808 : Int) ≤ -1; omega, by show (-1 : Int) ≤ _; omega⟩, ⟨Nat.le_refl _, by show 0 ≤ _; omega, fun _ => ⟨rfl, rfl⟩⟩, h2, h3, fun h => by cases h⟩, rfl, rfl, rfl, h1.1.symm, h4⟩
theorem new_L (n : Nat) (h0 : 0 < n) (hm : n ≤ 4096) (w : World) :
    Calls Try.prog 12 #[.int .i64 n] w fun e w' => NewP n w' e ∧ Below w.heap.size w w' :=
  (new_yes n h0 hm w).mono fun e w' h => ⟨isNew_L h.1, h.2⟩
def WroteP (B0 : Nat) (d : Dk) (k : Nat) (bs : List Int) (w' : World) (e : Ending) : Prop := ∃ d', e = retD d' 0 ∧ DkOk w' d' ∧ Wrote d k bs d' ∧ ∀ b, b < B0 → DkSep d b → DkSep d' b
theorem isWr_L {d : Dk} {k : Nat} {bs : List Int} {w w' : World} {e : Ending} (hd : DkOk w d) (k1 : Below w.heap.size w w') (h : IsWr w.heap.size d.ps d.ns d.cs d.np d.left d.st k d.ws bs w' e) : WroteP w.heap.size d k bs w' e := by
  obtain ⟨g, cap, r, rfl, h1, h2, h3, h4, h5, h6, rb, h7, h8⟩ := h
  have hd' := hd.below k1
  exact ⟨⟨d.ps, d.ns, d.cs, some ⟨g, 0, none⟩, d.np + 1, cap, d.left, d.st, d.rs, d.ws ++ [⟨k, r⟩]⟩, rfl, ⟨⟨hd'.1.1, h1, hd'.1.2.2⟩, ⟨h2, h3, fun h => by cases h⟩, hd'.2.2⟩, ⟨rfl, rfl, rfl, r, rfl, h4, h5⟩, fun b hb hs => ⟨hs.1, .inr fun a ha => by cases ha; show g ≠ b; omega, hs.2.2.1, fun x hx => by
    rcases List.mem_append.1 hx with h | h
    · exact hs.2.2.2 x h
    · obtain rfl : x = ⟨k, r⟩ := by simpa using h
      exact .inr fun a ha => by rw [h7] at ha; cases ha; show rb ≠ b; omega⟩⟩
theorem write_L (d : Dk) (k : Nat) (pb : Option Addr) (mb cb : Nat) (bs : List Int) (w : World) (hd : Hid (DkOk w d)) (hq : Hid (d.run = true)) (hk : k < d.ns) (hb1 : mb ≤ 128) (hb2 : Hid (d.ws.length < 4096)) (hbs : Hid (SrcW w pb mb cb bs)) (hby : Hid (∀ z ∈ bs, 0 ≤ z ∧ z ≤ 255)) :
    Calls Try.prog 19 #[.agg d.c, .int .i64 k, .slice pb mb cb] w fun e w' => WroteP w.heap.size d k bs w' e ∧ Below w.heap.size w w' := by
  have hl := hd.out.lens
  have hf := Dk.facts hq.out
  have h2 := hb2.out
  exact (write_yes k pb mb cb d.ps d.ns d.cs d.pp d.np d.cp d.left d.st d.rs d.ws w (Lib.hid hd.out.1) hq hk hb1 (by omega) bs hbs hby (by omega) hd.out.2.1.1 hd.out.2.1.2.1 (Lib.hid hd.out.2.1.2.2)).mono fun e w' h => ⟨isWr_L hd.out h.2 h.1, h.2⟩
theorem rwrite_L (d : Dk) (k : Nat) (pb : Option Addr) (mb cb : Nat) (bs : List Int) (w : World) (hd : Hid (DkOk w d)) (hq : Hid (d.run = true)) (hk : k < d.ns) (hb1 : mb ≤ 128) (hb2 : Hid (d.ws.length < 4096)) (hbs : Hid (SrcW w pb mb cb bs)) (hby : Hid (∀ z ∈ bs, 0 ≤ z ∧ z ≤ 255)) :
    Calls Try.prog 20 #[.agg d.c, .int .i64 k, .slice pb mb cb] w fun e w' => WroteP w.heap.size d k bs w' e ∧ Below w.heap.size w w' := by
  have hl := hd.out.lens
  have hf := Dk.facts hq.out
  have h2 := hb2.out
  exact (rwrite_yes k pb mb cb d.ps d.ns d.cs d.pp d.np d.cp d.left d.st d.rs d.ws w (Lib.hid hd.out.1) hf.2.2.2 (Lib.hid (run_chk hq.out)) hk hb1 (by omega) bs hbs hby (by omega) hd.out.2.1.1 hd.out.2.1.2.1 (Lib.hid hd.out.2.1.2.2)).mono fun e w' h => ⟨isWr_L hd.out h.2 h.1, h.2⟩
def SyncedP (B0 : Nat) (d : Dk) (w' : World) (e : Ending) : Prop := ∃ d', e = retD d' (if stopB d.left d.ws.length then 40 else 0) ∧ DkOk w' d' ∧ Synced d d' ∧ ∀ b, b < B0 → DkSep d b → DkSep d' b
theorem isSyn_L {d : Dk} {w w' : World} {e : Ending} (hd : DkOk w d) (hr : -1 ≤ d.left ∧ d.left ≤ 65536) (h : IsSyn w.heap.size d.ns d.rs d.ws d.left w' e) : SyncedP w.heap.size d w' e := by
  obtain ⟨g, cap, rs', rfl, h1, h2, h3, h4, h5, h6, h7⟩ := h
  have hl := hd.lens
  refine ⟨⟨some ⟨g, 0, none⟩, d.ns, cap, none, 0, 0, synL d.left d.ws.length, stopB d.left d.ws.length, rs', []⟩, rfl, ⟨⟨h1, ⟨rfl, by show 0 ≤ _; omega, fun r hr => (List.not_mem_nil hr).elim, .inl rfl⟩, ?_⟩, ⟨Nat.le_refl _, by show 0 ≤ _; omega, fun _ => ⟨rfl, rfl⟩⟩, h2, h3, fun h => by cases h⟩, ⟨rfl, h5, h4, rfl, rfl, ?_⟩, fun b hb hs => ⟨.inr fun a ha => by cases ha; show g ≠ b; omega, .inl rfl, h7 b hb hs.2.2.1 hs.2.2.2, fun x hx => (List.not_mem_nil hx).elim⟩⟩
  · show i64B (synL d.left d.ws.length)
    have hn := hd.1.2.1.2.1
    unfold synL i64B
    split
    · omega
    · split <;> omega
  · show rs'.length = d.rs.length
    rw [← h1.1, hl.1]
theorem sync_L (d : Dk) (w : World) (hd : Hid (DkOk w d)) (hq : Hid (d.run = true)) :
    Calls Try.prog 23 #[.agg d.c] w fun e w' => SyncedP w.heap.size d w' e ∧ Below w.heap.size w w' := by
  have hf := Dk.facts hq.out
  exact (sync_yes d.ps d.ns d.cs d.pp d.np d.cp d.left d.st d.rs d.ws w (Lib.hid hd.out.1) hq hd.out.2.1.1 hd.out.2.1.2.1 hd.out.2.1.2.2).mono fun e w' h => ⟨isSyn_L hd.out hf.1.2.2.2 h.1, h.2⟩
theorem rsync_yes (ps : Option Addr) (ns cs : Nat) (pp : Option Addr) (np cp : Nat) (left : Int) (st : Bool) (rs : List Rw) (ws : List Wt) (w : World) (hz : Hid (DskV w ps ns pp np left rs ws)) (hq : Hid (runB left st rs ws = true)) (hp1 : np ≤ cp) (hp2 : cp ≤ 9223372036854775807) (hp3 : pp = none → np = 0 ∧ cp = 0) :
    Calls Try.prog 24 #[.agg (dskC ps ns cs pp np cp left st)] w fun e w' => IsSyn w.heap.size ns rs ws left w' e ∧ Below w.heap.size w w' := by
  have hf := run_facts hq.out
  obtain rfl := hf.2.2.2
  cases pp with
  | none =>
    obtain ⟨rfl, rfl⟩ := hp3 rfl
    by_cases h1 : left = -1
    · subst h1; exact rsync_n1 ps ns cs rs ws w hz hq hp1 hp2
    · obtain ⟨lf, rfl⟩ : ∃ lf : Nat, left = (lf : Int) := ⟨left.toNat, by omega⟩
      exact rsync_n2 lf ps ns cs rs ws w hz hq hp1 hp2
  | some pa =>
    by_cases h1 : left = -1
    · subst h1; exact rsync_m1 pa ps ns cs np cp rs ws w hz hq hp1 hp2
    · obtain ⟨lf, rfl⟩ : ∃ lf : Nat, left = (lf : Int) := ⟨left.toNat, by omega⟩
      by_cases h2 : np ≤ lf
      · exact rsync_go lf pa ps ns cs np cp rs ws w hz hq hp1 hp2 h2
      · exact rsync_stop lf pa ps ns cs np cp rs ws w hz hq hp1 hp2 (by omega)
theorem rsync_L (d : Dk) (w : World) (hd : Hid (DkOk w d)) (hq : Hid (d.run = true)) :
    Calls Try.prog 24 #[.agg d.c] w fun e w' => SyncedP w.heap.size d w' e ∧ Below w.heap.size w w' := by
  have hf := Dk.facts hq.out
  exact (rsync_yes d.ps d.ns d.cs d.pp d.np d.cp d.left d.st d.rs d.ws w (Lib.hid hd.out.1) hq hd.out.2.1.1 hd.out.2.1.2.1 hd.out.2.1.2.2).mono fun e w' h => ⟨isSyn_L hd.out hf.1.2.2.2 h.1, h.2⟩
/-- the bytes that a read answers -/
def readB (d : Dk) (k : Nat) : List Int := (readR k (d.rs.getD k rw0) d.ws).bs
def ReadP (bs : List Int) (w' : World) (e : Ending) : Prop := ∃ b off c', e = .returned (.tuple #[.slice (some ⟨b, off, none⟩) 128 c', .int .i64 0]) ∧ BytesAt w' b off bs ∧ bs.length = 128 ∧ b < w'.heap.size ∧ 128 ≤ c'
theorem readR_all {q : Rw → Prop} (k : Nat) : ∀ (ws : List Wt) (r : Rw), q r → (∀ x ∈ ws, q x.row) → q (readR k r ws)
  | [], r, h, _ => h
  | x :: ws, r, h, hx => by
    show q (readR k (if x.pos = (k : Int) then x.row else r) ws)
    refine readR_all k ws _ ?_ (fun y hy => hx y (by simp [hy]))
    split
    · exact hx x (by simp)
    · exact h
theorem readB_row {w : World} {d : Dk} {k : Nat} (hd : DkOk w d) (hq : d.run = true) (hk : k < d.ns) : RwOk w (readR k (d.rs.getD k rw0) d.ws) ∧ (readR k (d.rs.getD k rw0) d.ws).m = 128 := by
  have hf := Dk.facts hq
  have hl := hd.lens
  refine readR_all (q := fun r => RwOk w r ∧ r.m = 128) k d.ws _ ?_ fun x hx => ⟨(hd.1.2.1.2.2.1 x hx).2, (hf.2.2.1 x hx).2⟩
  have hm : d.rs.getD k rw0 ∈ d.rs := getD_mem (by omega)
  exact ⟨hd.1.1.2.2.1 _ hm, hf.2.1 _ hm⟩
theorem readB_len {w : World} {d : Dk} {k : Nat} (hd : DkOk w d) (hq : d.run = true) (hk : k < d.ns) : (readB d k).length = 128 := by
  obtain ⟨h1, h2⟩ := readB_row hd hq hk
  have := h1.1.len
  unfold readB
  omega
theorem srcW_128 {w : World} {p : Option Addr} {c : Nat} {bs : List Int} (h : SrcW w p bs.length c bs) (hl : bs.length = 128) : ∃ b off, p = some ⟨b, off, none⟩ ∧ BytesAt w b off bs ∧ b < w.heap.size := by
  rcases h with ⟨_, ⟨_, h6, _⟩ | ⟨b, off, e, hb, hc⟩⟩ | ⟨_, h6, _⟩
  · omega
  · exact ⟨b, off, e, hc, hb⟩
  · omega
theorem isRd_L {bs : List Int} {w' : World} {e : Ending} (hl : bs.length = 128) (h : IsRd bs w' e) : ReadP bs w' e := by
  obtain ⟨q, c', rfl, h1, h9⟩ := h
  obtain ⟨b, off, rfl, h2, h3⟩ := srcW_128 h1 hl
  exact ⟨b, off, c', by rw [hl], h2, hl, h3, by omega⟩
theorem read_L (d : Dk) (k : Nat) (w : World) (hd : Hid (DkOk w d)) (hq : Hid (d.run = true)) (hk : k < d.ns) :
    Calls Try.prog 21 #[.agg d.c, .int .i64 k] w fun e w' => ReadP (readB d k) w' e ∧ Below w.heap.size w w' := by
  have hl := hd.out.lens
  have hf := Dk.facts hq.out
  exact (read_yes k d.ps d.ns d.cs d.pp d.np d.cp d.left d.st d.rs d.ws w (Lib.hid hd.out.1) hq hk (by omega) (Lib.hid hf.2.1) (Lib.hid fun x hx => (hf.2.2.1 x hx).2)).mono fun e w' h => ⟨isRd_L (readB_len hd.out hq.out hk) h.1, h.2⟩
/-- after a restart -/
def Dk.re (d : Dk) : Dk := ⟨d.ps, d.ns, d.cs, none, 0, 0, -1, false, d.rs, []⟩
theorem DkOk.re {w : World} {d : Dk} (h : DkOk w d) : DkOk w d.re := ⟨⟨h.1.1, ⟨rfl, by show 0 ≤ _; omega, fun r hr => (List.not_mem_nil hr).elim, .inl rfl⟩, by show (-9223372036854775808 : Int) ≤ -1; omega, by show (-1 : Int) ≤ _; omega⟩, ⟨Nat.le_refl _, by show 0 ≤ _; omega, fun _ => ⟨rfl, rfl⟩⟩, h.2.2⟩
theorem restart_L (d : Dk) (w : World) (hd : Hid (DkOk w d)) :
    Calls Try.prog 17 #[.agg d.c] w fun e w' => e = .returned (.agg (dskC d.ps d.ns d.cs none 0 0 (-1) false)) ∧ Below w.heap.size w w' :=
  restart_any d.ps d.ns d.cs d.pp d.np d.cp d.left d.st d.rs d.ws w (Lib.hid hd.out.1)
/-- after a stop was set -/
def Dk.stop (d : Dk) (k : Int) : Dk := ⟨d.ps, d.ns, d.cs, d.pp, d.np, d.cp, k, d.st, d.rs, d.ws⟩
theorem DkOk.stop {w : World} {d : Dk} {k : Int} (h : DkOk w d) (hk : i64B k) : DkOk w (d.stop k) := ⟨⟨h.1.1, h.1.2.1, hk⟩, h.2⟩
theorem stop_L (d : Dk) (k : Int) (w : World) (hd : Hid (DkOk w d)) (hq : Hid (d.run = true)) (hk : 0 ≤ k ∧ k ≤ 65536) :
    Calls Try.prog 25 #[.agg d.c, .int .i64 k] w fun e w' => e = .returned (.tuple #[.agg (dskC d.ps d.ns d.cs d.pp d.np d.cp k d.st), .int .i64 0]) ∧ Below w.heap.size w w' := by
  have hr : runB d.left d.st d.rs d.ws = true := hq.out
  refine (stop_any k d.ps d.ns d.cs d.pp d.np d.cp d.left d.st d.rs d.ws w (Lib.hid hd.out.1)).mono fun e w' h => ⟨?_, h.2⟩
  rw [h.1, hr]
  unfold stopR
  rw [if_pos rfl, if_pos hk]
end Go.Proofs.Ytackklbifppfeaa
