/- A range over a function whose iterator keeps blocks of its own, laid before its first yield, and writes them between two yields. No condition of its own. -/
import Derived.RangeFuncNested
import Derived.RangeFuncRecord
namespace Go.Proofs.Ytilokkkodocoiaa
open Go Go.RowKit
set_option linter.unusedVariables false

/-- what is kept across a step: what the contract names, and the iterator's own blocks, n0 to n0 + m -/
def KeepX (Kp : World → World → Prop) (n0 m : Nat) (W W' : World) : Prop := Kp W W' ∧ ∀ b, n0 ≤ b → b < n0 + m → W'.heap[b]? = W.heap[b]?
theorem KeepX.trans {Kp : World → World → Prop} (hKt : ∀ {A B C : World}, Kp A B → Kp B C → Kp A C) {n0 m : Nat} {X Y Z : World} (h : KeepX Kp n0 m X Y) (g : KeepX Kp n0 m Y Z) : KeepX Kp n0 m X Z := ⟨hKt h.1 g.1, fun b h1 h2 => (g.2 b h1 h2).trans (h.2 b h1 h2)⟩
/-- a fact that abides a step which turns one of the iterator's own blocks, or one that is no cells and lies at or behind B -/
def OwnX {β : Type} (B n0 m : Nat) (I : β → World → Prop) : Prop :=
  ∀ s W W' row, I s W → W.grownBy W' row → (∀ r, row = some r → (n0 ≤ r ∧ r < n0 + m) ∨ (B ≤ r ∧ ∃ o : Obj, W.heap[r]? = some o ∧ o.isCells = false)) → I s W'
theorem OwnX.turn {β : Type} {B n0 m : Nat} {I : β → World → Prop} (h : OwnX B n0 m I) {s : β} {W : World} {l : Nat} {o : Obj} (o' : Obj) (hs : I s W) (hB : B ≤ l) (hl : W.heap[l]? = some o) (ho : o.isCells = false) : I s (W.putObj l o') :=
  h s W _ (some l) hs (grownBy_putObj' W l o') (fun r e => by cases e; exact .inr ⟨hB, o, hl, ho⟩)
theorem OwnX.more {β : Type} {B n0 m : Nat} {I : β → World → Prop} (h : OwnX B n0 m I) {s : β} {W : World} (o : Obj) (hs : I s W) : I s (W.alloc o) :=
  h s W _ none hs (World.grownBy_alloc W o none) (fun r e => by cases e)
theorem OwnX.and {β : Type} {B n0 m : Nat} {I J : β → World → Prop} (h : OwnX B n0 m I) (g : OwnX B n0 m J) : OwnX B n0 m (fun s W => I s W ∧ J s W) := fun s W W' row hs hg hr => ⟨h s W W' row hs.1 hg hr, g s W W' row hs.2 hg hr⟩
theorem OwnX.grow {β : Type} {B n0 m : Nat} {I : β → World → Prop} (h : OwnX B n0 m I) {s : β} {W W' : World} (hs : I s W) (k : Below W.heap.size W W') : I s W' :=
  h s W W' none hs ⟨k.os, k.tape, k.output, k.size, fun i hi _ => k.block i hi⟩ (fun r e => by cases e)
theorem OwnX.cell {β : Type} {B n0 m : Nat} {I : β → World → Prop} (h : OwnX B n0 m I) {s : β} {W : World} {b o : Nat} {v : Value} (hs : I s W) (h1 : n0 ≤ b) (h2 : b < n0 + m) : I s (W.setCell ⟨b, o, none⟩ v) := by
  have k := (Below.refl W.heap.size W)
  refine h s W _ (some b) hs ⟨rfl, rfl, rfl, ?_, fun i hi hne => Below.heap_setCell W ⟨b, o, none⟩ v i (fun e => hne (by rw [e]))⟩ (fun r e => by cases e; exact .inl ⟨h1, h2⟩)
  show W.heap.size ≤ (W.heap.modify b _).size
  rw [Array.size_modify]; exact Nat.le_refl _
/-- the contract of such an iterator; the first block of its own is the next one to be laid when it is called -/
def SeqX {α : Type} (F : Fence) (n : Nat) (P : Program) (g : Nat) (lb : Array Value) (encs : α → Array Value) (Kp : World → World → Prop) (m : Nat) (S Sp : List α → Prop) (N : Nat) (w : World) : Prop :=
  ∀ (l : Nat) (J Jx : List α → World → Prop) (W : World), Below w.heap.size w W → OwnX W.heap.size W.heap.size m J → OwnX W.heap.size W.heap.size m Jx →
    (∀ pre x W1, J pre W1 → pre.length < N → W.heap.size + m ≤ W1.heap.size → YieldAt F (n - 1) P l (encs x) W1 fun e W' =>
      (e = .returned (.bool true) ∧ J (pre ++ [x]) W' ∧ KeepX Kp W.heap.size m W1 W') ∨ (e = .returned (.bool false) ∧ Jx (pre ++ [x]) W')) →
    J [] W →
    CallsIn F n P g (#[.func (.yield l) #[] #[]] ++ lb) W fun e W' => (∃ v, e = .returned v) ∧ ((∃ xs, S xs ∧ J xs W') ∨ (∃ pre, Sp pre ∧ Jx pre W'))
section
variable {F : Fence} {n : Nat} {P : Program} {w : World}
/-- what the law itself lays: the block of deferred calls, and the loop's record -/
structure Kept (w : World) (r : Obj) (W : World) : Prop where
  loop : W.heap[w.heap.size + 1]? = some r
  defd : W.heap[w.heap.size]? = some (.deferred (some []))
theorem Kept.step {r : Obj} {m : Nat} {W W' : World} {row : Option Nat} (h : Kept w r W) (hr0 : r.isWalk = false) (hg : W.grownBy W' row) (hr : ∀ i, row = some i → (w.heap.size + 2 ≤ i) ∨ (w.heap.size + 2 ≤ i ∧ ∃ o : Obj, W.heap[i]? = some o ∧ o.isCells = false)) : Kept w r W' := by
  have hne : ∀ i, row = some i → w.heap.size + 2 ≤ i := fun i e => (hr i e).elim id (·.1)
  refine ⟨(hg.block _ (Array.getElem?_eq_some_iff.1 h.loop).1 (fun e => ?_)).trans h.loop, (hg.block _ (Array.getElem?_eq_some_iff.1 h.defd).1 (fun e => ?_)).trans h.defd⟩
  · have := hne _ e.symm; omega
  · have := hne _ e.symm; omega
theorem wpIn_rangeFunc_ownX {α : Type} {g : Operand} {ps : Array Tmp} {assign body : Code} {Q : Exit → Act → World → Prop} {a : Act}
    (hro : F.round = none) (h1 : 1 ≤ n) {gf : Nat} {lb : Array Value} (hg : a.eval g = .func (.func gf) #[] lb) (hFg : F.fn gf) (eg : ∀ args w, (callFunc gf args).run P w = .ok (.enter gf args) w)
    {encs : α → Array Value} {Kp : World → World → Prop} {m : Nat} {S Sp : List α → Prop} {N : Nat} {w0 : World} (hseq : SeqX F (n - 1) P gf lb encs Kp m S Sp N w0)
    (hKt : ∀ {A B C : World}, Kp A B → Kp B C → Kp A C) (hKb : ∀ (W : World) (l : Nat) (o o' : Obj), w.heap.size ≤ l → W.heap[l]? = some o → o.isCells = false → o.isWalk = false → Kp W (W.putObj l o')) (hb0 : Below w0.heap.size w0 w) (hps : ∀ x, (encs x).size = ps.size)
    (I : List α → World → Prop) (Ix : Code → List α → World → Prop) (hI : OwnX w.heap.size (w.heap.size + 2) m I) (hIx : ∀ c, OwnX w.heap.size (w.heap.size + 2) m (Ix c)) (h0 : I [] w) (Ax : α → Act → World → Prop) (hAx : ∀ x a', OwnX w.heap.size (w.heap.size + 2) m (fun (_ : Unit) W => Ax x a' W))
    (hassign : ∀ (l : Nat) (pre : List α) (x : α) (W : World) (K : Act → World → Prop), I pre W → w.heap.size + 2 + m ≤ W.heap.size → (∀ a' W', KeepsFrom w.heap.size W W' → KeepX Kp (w.heap.size + 2) m W W' → I pre W' → Ax x a' W' → K a' W') →
      assign.wpIn (F.inRound l) (n - 1 - 1) P (Exit.then K (fun _ _ _ => False)) { tmps := (ps.zip (encs x)).foldl (fun t (p, v) => t.setIfInBounds p v) a.tmps, defers := [] } W)
    (hbody : ∀ (l : Nat) (pre : List α) (x : α) (a' : Act) (W : World), w.heap.size ≤ l → I pre W → Ax x a' W → pre.length < N → w.heap.size + 2 + m ≤ W.heap.size → body.wpIn (F.inRound l) (n - 1 - 1) P (ownPostG w.heap.size (KeepX Kp (w.heap.size + 2) m) I Ix (pre ++ [x]) W) a' W)
    (hdone : ∀ (D : Nat) (xs : List α) (W : World), w.heap.size ≤ D → S xs → I xs W → W.heap[D]? = some (.deferred (some [])) → Q .normal { a with defers := { target := .collected D, args := #[] } :: a.defers } W)
    (hstop : ∀ (D : Nat) (c : Code) (pre : List α) (W : World), w.heap.size ≤ D → Sp pre → Ix c pre W → W.heap[D]? = some (.deferred (some [])) → c.wpIn F n P Q { a with defers := { target := .collected D, args := #[] } :: a.defers } W) :
    (Code.rangeFunc g ps assign body).wpIn F n P Q a w := by
  obtain ⟨s, hs⟩ : ∃ s, w.heap.size = s := ⟨_, rfl⟩
  rw [hs] at hI hIx hAx hassign hbody hdone hstop hKb
  refine wpIn_rangeFunc fun fn hfn => ?_
  rw [hro]
  let rec_ : LoopState → Option Code → Loop := fun st pe => { state := st, pending := pe, fn, tmps := a.tmps, params := ps, assign, body, defers := s }
  obtain ⟨R, hR⟩ : ∃ R : LoopState → Option Code → Loop, R = rec_ := ⟨_, rfl⟩
  have hRf : ∀ st pe, R st pe = { state := st, pending := pe, fn, tmps := a.tmps, params := ps, assign, body, defers := s } := fun st pe => by rw [hR]
  clear_value rec_
  clear hR rec_
  obtain ⟨V, hV⟩ : ∃ V, (w.alloc (.deferred (some []))).alloc (.loop (R .ready none)) = V := ⟨_, rfl⟩
  have hVs : V.heap.size = s + 2 := by rw [← hV]; simp [hs]
  have hk : Kept w (.loop (R .ready none)) V := by
    rw [← hV]
    refine ⟨?_, (Below.heap_alloc _ _ _ (by simp)).trans (World.alloc_heap_new w _)⟩
    have := World.alloc_heap_new (w.alloc (.deferred (some []))) (.loop (R .ready none))
    rwa [World.size_alloc] at this
  have hiV : I [] V := by rw [← hV]; exact hI.more _ (hI.more _ h0)
  have hbV : Below w0.heap.size w0 V := by
    rw [← hV]; exact hb0.trans ((((Below.refl _ w).alloc (Nat.le_refl _) _).alloc (by simp) _).mono hb0.size)
  have hw0 : w0.heap.size ≤ s := by have := hb0.size; omega
  refine ⟨s + 1, [{ target := .collected s, args := #[] }], V, { target := .fn (.func gf) lb, args := #[.func (.yield (s + 1)) #[] #[]] }, V, gf, #[.func (.yield (s + 1)) #[] #[]] ++ lb, V, ?_, ?_, ?_, ?_, fun _ => h1, ?_⟩
  · rw [← hV, hRf, ← hs]; exact run_enterLoop_outer _ _ _ _ _
  · simp only [resolve, hg]
    simp [go_sem]
  · intro f' hf'; simp [Target.leads] at hf'; subst hf'; exact hFg
  · simp [invoke, go_sem, eg]
  have hrow : ∀ {X : World} {row : Option Nat}, (∀ r, row = some r → (V.heap.size ≤ r ∧ r < V.heap.size + m) ∨ (V.heap.size ≤ r ∧ ∃ o : Obj, X.heap[r]? = some o ∧ o.isCells = false)) →
      ∀ r, row = some r → (s + 2 ≤ r ∧ r < s + 2 + m) ∨ (s ≤ r ∧ ∃ o : Obj, X.heap[r]? = some o ∧ o.isCells = false) := fun h r e => by
    rw [hVs] at h
    rcases h r e with h | h
    · exact .inl h
    · exact .inr ⟨by omega, h.2⟩
  have hrow2 : ∀ {X : World} {row : Option Nat}, (∀ r, row = some r → (V.heap.size ≤ r ∧ r < V.heap.size + m) ∨ (V.heap.size ≤ r ∧ ∃ o : Obj, X.heap[r]? = some o ∧ o.isCells = false)) →
      ∀ r, row = some r → (w.heap.size + 2 ≤ r) ∨ (w.heap.size + 2 ≤ r ∧ ∃ o : Obj, X.heap[r]? = some o ∧ o.isCells = false) := fun h r e => by
    rw [hVs] at h; rw [hs]
    exact (h r e).elim (fun h => .inl h.1) (fun h => .inl h.1)
  refine (hseq (s + 1) (fun pre W => I pre W ∧ Kept w (.loop (R .ready none)) W) (fun pre W => ∃ c, Ix c pre W ∧ Kept w (.loop (R .done (some c))) W) V hbV
    (fun p X Y row hp hgr hr => ⟨hI p X Y row hp.1 hgr (hrow hr), hp.2.step (m := m) rfl hgr (hrow2 hr)⟩)
    (fun p X Y row hp hgr hr => by
      obtain ⟨c, hc, hkc⟩ := hp
      exact ⟨c, hIx c p X Y row hc hgr (hrow hr), hkc.step (m := m) rfl hgr (hrow2 hr)⟩) ?_ ⟨hiV, hk⟩).mono ?_
  · rintro pre x W ⟨hi, hkW⟩ hlen hsz
    rw [hVs] at hsz ⊢
    have hy := run_yield (P := P) (args := encs x) (hs ▸ hkW.loop) (by rw [hRf]; exact hps x)
    rw [hRf] at hy
    refine ⟨fn, _, assign, body, hy, roundIn_of_wpIn hfn (hassign _ pre x W _ hi hsz fun a' Wa hka hxa hia hax => ?_)⟩
    clear hy
    have hlA := hka.same _ _ (by omega) hkW.loop rfl
    have hdA := hka.same _ _ (by omega) hkW.defd rfl
    rw [hs] at hlA hdA
    have hltA := (Array.getElem?_eq_some_iff.1 hlA).1
    refine ⟨_, run_beginRound hlA (by rw [hRf]), ?_⟩
    obtain ⟨Z, hZ⟩ : ∃ Z, Wa.putObj (s + 1) (.loop { R .ready none with state := .busy }) = Z := ⟨_, rfl⟩
    rw [hZ]
    have hlZ : Z.heap[s + 1]? = some (.loop { R .ready none with state := .busy }) := by rw [← hZ]; exact World.putObj_heap_same hltA
    have hdZ : Z.heap[s]? = some (.deferred (some [])) := by rw [← hZ]; exact (World.putObj_heap_other (by omega)).trans hdA
    have hxZ : KeepX Kp (s + 2) m Wa Z := by
      rw [← hZ]
      exact ⟨hKb Wa (s + 1) _ _ (by omega) hlA rfl rfl, fun b hb1 hb2 => World.putObj_heap_other (by omega)⟩
    have hszZ : s + 2 + m ≤ Z.heap.size := by have := hka.size; rw [← hZ, World.putObj_size]; omega
    have hiZ : I pre Z := by rw [← hZ]; exact hI.turn _ hia (by omega) hlA rfl
    have haZ : Ax x a' Z := by rw [← hZ]; exact (hAx x a').turn (s := ()) _ hax (by omega) hlA rfl
    refine wpIn_mono (hbody (s + 1) pre x a' Z (by omega) hiZ haZ hlen hszZ) ?_
    have fin : ∀ (jump : Option Code) (Y : World), KeepsFrom s Z Y →
        (Instr.endRound (s + 1) jump).run P Y = .ok (.bool jump.isNone) (Y.putObj (s + 1) (.loop (R (if jump.isNone then .ready else .done) jump))) ∧
        Y.heap[s + 1]? = some (.loop { R .ready none with state := .busy }) ∧ Kept w (.loop (R (if jump.isNone then .ready else .done) jump)) (Y.putObj (s + 1) (.loop (R (if jump.isNone then .ready else .done) jump))) := fun jump Y hY => by
      have hl3 := hY.same _ _ (by omega) hlZ rfl
      have hd3 := hY.same _ _ (Nat.le_refl _) hdZ rfl
      have hrn := run_endRound (P := P) jump hl3
      rw [hRf] at hrn
      refine ⟨by rw [hRf]; exact hrn, hl3, ⟨?_, ?_⟩⟩
      · rw [hs]; exact World.putObj_heap_same (Array.getElem?_eq_some_iff.1 hl3).1
      · rw [hs]; exact (World.putObj_heap_other (by omega)).trans hd3
    have hxP : ∀ {Y : World} (o' : Obj), Y.heap[s + 1]? = some (.loop { R .ready none with state := .busy }) → KeepX Kp (s + 2) m Y (Y.putObj (s + 1) o') := fun {Y} o' h =>
      ⟨hKb Y (s + 1) _ _ (by omega) h rfl rfl, fun b hb1 hb2 => World.putObj_heap_other (by omega)⟩
    rintro e a3 Y hp
    cases e with
    | normal =>
      obtain ⟨h3, hx3, hi3⟩ := hp
      obtain ⟨hr, hl3, hk3⟩ := fin none Y h3
      exact ⟨_, _, hr, .inl ⟨rfl, ⟨hI.turn _ hi3 (by omega) hl3 rfl, hk3⟩, KeepX.trans (Kp := Kp) hKt hxa (KeepX.trans (Kp := Kp) hKt hxZ (KeepX.trans (Kp := Kp) hKt hx3 (hxP _ hl3)))⟩⟩
    | ret =>
      obtain ⟨h3, hi3⟩ := hp
      obtain ⟨hr, hl3, hk3⟩ := fin (some .ret) Y h3
      exact ⟨_, _, hr, .inr ⟨rfl, .ret, (hIx _).turn _ hi3 (by omega) hl3 rfl, hk3⟩⟩
    | exit id =>
      obtain ⟨h3, hi3⟩ := hp
      obtain ⟨hr, hl3, hk3⟩ := fin (some (.exit id)) Y h3
      exact ⟨_, _, hr, .inr ⟨rfl, .exit id, (hIx _).turn _ hi3 (by omega) hl3 rfl, hk3⟩⟩
    | goto t =>
      obtain ⟨h3, hi3⟩ := hp
      obtain ⟨hr, hl3, hk3⟩ := fin (some (.goto t)) Y h3
      exact ⟨_, _, hr, .inr ⟨rfl, .goto t, (hIx _).turn _ hi3 (by omega) hl3 rfl, hk3⟩⟩
    | panic ch => exact hp.elim
    | outgrown => exact hp.elim
  · rintro e Y ⟨⟨v, rfl⟩, (⟨xs, hS, hi, hkY⟩ | ⟨pre, hSp, c, hi, hkY⟩)⟩
    · have hl := hkY.loop
      have hd := hkY.defd
      rw [hs] at hl hd
      exact ⟨none, _, by have := run_endLoop (P := P) hl (by rw [hRf]; simp); rw [hRf] at this; exact this, hdone s xs _ (Nat.le_refl _) hS (hI.turn _ hi (by omega) hl rfl) ((World.putObj_heap_other (by omega)).trans hd)⟩
    · have hl := hkY.loop
      have hd := hkY.defd
      rw [hs] at hl hd
      exact ⟨some c, _, by have := run_endLoop (P := P) hl (by rw [hRf]; simp); rw [hRf] at this; exact this, hstop s c pre _ (Nat.le_refl _) hSp ((hIx c).turn _ hi (by omega) hl rfl) ((World.putObj_heap_other (by omega)).trans hd)⟩
end
end Go.Proofs.Ytilokkkodocoiaa
