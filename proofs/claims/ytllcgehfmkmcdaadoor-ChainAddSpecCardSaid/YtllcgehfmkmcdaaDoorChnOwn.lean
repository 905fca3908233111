/- Links that a walk has made: appends; Clip; the build of a link. -/
import Derived.Test.YtllcgehfmkmcdaaDoorChnVal
import Derived.Test.YtllcgehfmkmcdaaDoorCloneB
import Derived.ArgAppend
namespace Go.Proofs.YtllcgehfmkmcdaaDoor
open Go.RowKit
set_option linter.unusedVariables false
set_option linter.unusedSimpArgs false

def WfK (l : List Lk) : Prop := ∀ x ∈ l, x.prev.length = 32
theorem WfK.snoc {l : List Lk} {x : Lk} (h : WfK l) (hx : x.prev.length = 32) : WfK (l ++ [x]) := fun y hy => (List.mem_append.1 hy).elim (h y) (fun e => by rw [List.mem_singleton.1 e]; exact hx)
theorem LksV.wf {w : World} {p : Option Addr} {n c : Nat} {ls : List Lk} (h : LksV w p n c ls) : WfK ls := fun x hx => (h.ok x hx).len
def rowK (l : List Lk) : List Value := (l.map lkv).flatten
theorem rowK_cons (a : Lk) (l : List Lk) : rowK (a :: l) = lkv a ++ rowK l := rfl
theorem rowK_snoc (l : List Lk) (a : Lk) : rowK (l ++ [a]) = rowK l ++ lkv a := by simp [rowK]
theorem rowK_app (l m : List Lk) : rowK (l ++ m) = rowK l ++ rowK m := by simp [rowK]
theorem rowK_len : ∀ {l : List Lk}, WfK l → (rowK l).length = l.length * 35
  | [], _ => rfl
  | a :: l, h => by
    rw [rowK_cons, List.length_append, rowK_len (fun x hx => h x (List.mem_cons_of_mem _ hx)), lkv_len (h a List.mem_cons_self), List.length_cons]; omega
theorem rowK_one (l : List Lk) : ∀ u ∈ rowK l, u.oneCell' = true := by
  intro u hu
  simp only [rowK, List.mem_flatten, List.mem_map] at hu
  obtain ⟨c, ⟨x, _, rfl⟩, h⟩ := hu
  exact lkv_one x u h
theorem rowK_get : ∀ {l : List Lk} (_ : WfK l) (k j : Nat), k < l.length → j < 35 → (rowK l)[k * 35 + j]? = (lkv (l.getD k lk0))[j]?
  | [], _, k, j, hk, _ => by simp at hk
  | a :: l, h, 0, j, _, hj => by
    have ha := lkv_len (h a List.mem_cons_self)
    rw [rowK_cons, List.getElem?_append_left (by omega)]; simp
  | a :: l, h, k + 1, j, hk, hj => by
    have ha := lkv_len (h a List.mem_cons_self)
    rw [rowK_cons, List.getElem?_append_right (by omega)]
    have e : (k + 1) * 35 + j - (lkv a).length = k * 35 + j := by omega
    rw [e, rowK_get (fun x hx => h x (List.mem_cons_of_mem _ hx)) k j (by simpa using hk) hj]; simp
theorem lks_src {w : World} {b off : Nat} {l : List Lk} (hw : WfK l) (h : LksAt w b off l) : ∀ j u, (rowK l)[j]? = some u → w.cell? ((⟨b, off, none⟩ : Addr).add j) = some u := fun j u hj => by
  have hlt : j < (rowK l).length := (List.getElem?_eq_some_iff.1 hj).1
  rw [rowK_len hw] at hlt
  obtain ⟨k, i, hi, rfl⟩ : ∃ k i, i < 35 ∧ j = k * 35 + i := ⟨j / 35, j % 35, by omega, by omega⟩
  have hk : k < l.length := by omega
  rw [rowK_get hw k i hk hi] at hj
  rw [Addr.add_mid, ← Nat.add_assoc]
  exact h k hk i u hj
def OwnK (w : World) (B : Nat) (v : Value) (l : List Lk) : Prop := w.ownsRow B 37 35 v l.length (rowK l)
theorem infoK : (Tryd.prog.info? 37).map (fun i => (i.zero, i.size, i.bytes)) = some (some (.agg #[.int .i64 0, .int .i64 0, .int .u8 0, .int .u8 0, .int .u8 0, .int .u8 0, .int .u8 0, .int .u8 0, .int .u8 0, .int .u8 0, .int .u8 0, .int .u8 0, .int .u8 0, .int .u8 0, .int .u8 0, .int .u8 0, .int .u8 0, .int .u8 0, .int .u8 0, .int .u8 0, .int .u8 0, .int .u8 0, .int .u8 0, .int .u8 0, .int .u8 0, .int .u8 0, .int .u8 0, .int .u8 0, .int .u8 0, .int .u8 0, .int .u8 0, .int .u8 0, .int .u8 0, .int .u8 0, .slice none 0 0]), 35, 72) := by kernel_rfl
theorem OwnK.below {w w' : World} {B : Nat} {v : Value} {l : List Lk} (h : OwnK w B v l) (k : Below w.heap.size w w') : OwnK w' B v l := by
  refine World.ownsRow.kept (row := none) h ⟨k.os, k.tape, k.output, k.size, fun i hi _ => k.block i hi⟩ ?_
  cases hv : v.ownBlock with
  | none => exact .inl rfl
  | some b => exact .inr (by simp)
theorem OwnK.slice {w : World} {B : Nat} {v : Value} {l : List Lk} (h : OwnK w B v l) (hw : WfK l) (h0 : 0 < l.length) : ∃ g cap, v = .slice (some ⟨g, 0, none⟩) l.length cap ∧ l.length ≤ cap ∧ cap ≤ maxLen ∧ B ≤ g ∧ g < w.heap.size ∧ LksAt w g 0 l := by
  have hown := h
  obtain ⟨h1, h2 | ⟨g, cap, cur, rfl, hBg, hg, hn, hm, hs, ht⟩⟩ := h
  · omega
  · refine ⟨g, cap, rfl, hn, hm, hBg, (Array.getElem?_eq_some_iff.1 hg).1, fun k hk j u hj => ?_⟩
    have hj35 : j < 35 := by
      have h1 := (List.getElem?_eq_some_iff.1 hj).1
      rwa [lkv_len (hw _ (getD_memL hk))] at h1
    have := World.ownsRow.cells hown (g := g) rfl (k * 35 + j) u ((rowK_get hw k j hk hj35).trans hj)
    rw [Addr.add_mid] at this
    rw [Nat.add_assoc]
    exact this
theorem OwnK.val {w : World} {B : Nat} {v : Value} {l : List Lk} (h : OwnK w B v l) (h0 : 0 < l.length) (hok : ∀ x ∈ l, LkOk w x) : ∃ g cap, v = .slice (some ⟨g, 0, none⟩) l.length cap ∧ LksV w (some ⟨g, 0, none⟩) l.length cap l ∧ B ≤ g := by
  obtain ⟨g, cap, hv, h1, h2, h3, h4, h5⟩ := h.slice (fun x hx => (hok x hx).len) h0
  exact ⟨g, cap, hv, ⟨rfl, h1, by unfold maxLen at h2; omega, (fun e => by cases e), hok, .inr ⟨g, 0, rfl, h4, h5⟩⟩, h3⟩
theorem gr_none {w w' : World} (h : w.grownBy w' none) : Below w.heap.size w w' := ⟨h.os, h.tape, h.output, h.size, fun i hi => h.block i hi (by simp)⟩
/-- append of one link to what the walk has made -/
theorem appK {ops : Array Oper} {rest : List Oper} {o : Oper} {a : Act} {w : World} {Q : Exit → Act → World → Prop} (hgd : o.guard = none) (s x : Operand)
    (ho : o.op = .call { callee := .builtin .append, args := #[s, x], argTypes := #[22, 22] }) (B : Nat) (v : Value) (l : List Lk) (hs : a.eval s = v) (hown : OwnK w B v l)
    (b : Nat) (y : Lk) (hx : a.eval x = .slice (some ⟨b, 0, none⟩) 1 1) (hb : KBlk w b y) (hlen : l.length ≤ 1000000) (hB : B ≤ w.heap.size)
    (h : ∀ v' w', OwnK w' B v' (l ++ [y]) → w.grownBy w' v.ownBlock → wpList Tryd.prog ops Q rest (a.put o.dst v') w') : wpList Tryd.prog ops Q (o :: rest) a w := by
  obtain ⟨i0, hi, hz0, hz1, hz2⟩ := info_parts infoK
  refine wpList_append_own _ hgd s x 22 ho B 37 i0 (.agg #[.int .i64 0, .int .i64 0, .int .u8 0, .int .u8 0, .int .u8 0, .int .u8 0, .int .u8 0, .int .u8 0, .int .u8 0, .int .u8 0, .int .u8 0, .int .u8 0, .int .u8 0, .int .u8 0, .int .u8 0, .int .u8 0, .int .u8 0, .int .u8 0, .int .u8 0, .int .u8 0, .int .u8 0, .int .u8 0, .int .u8 0, .int .u8 0, .int .u8 0, .int .u8 0, .int .u8 0, .int .u8 0, .int .u8 0, .int .u8 0, .int .u8 0, .int .u8 0, .int .u8 0, .int .u8 0, .slice none 0 0]) 35 72 Tryd.underlying22 hi hz0 hz1 hz2 rfl (by decide) v l.length (rowK l) hs hown ⟨b, 0, none⟩ 1 1 (lkv y) hx (by rw [lkv_len hb.2]) ?_ (lkv_one y) (by unfold maxLen; omega) (by omega) hB ?_
  · intro j u hj
    rw [Addr.add_mid, Nat.zero_add, hb.1.cell j, List.getElem?_toArray]; exact hj
  · intro v' w' h1 h2 _
    refine h v' w' ?_ h2
    unfold OwnK
    rw [List.length_append, rowK_snoc]
    exact h1
/-- append of a slice of links to what the walk has made -/
theorem appKs {ops : Array Oper} {rest : List Oper} {o : Oper} {a : Act} {w : World} {Q : Exit → Act → World → Prop} (hgd : o.guard = none) (s x : Operand)
    (ho : o.op = .call { callee := .builtin .append, args := #[s, x], argTypes := #[22, 22] }) (B : Nat) (v : Value) (l : List Lk) (hs : a.eval s = v) (hown : OwnK w B v l)
    (p : Option Addr) (n cap : Nat) (ws : List Lk) (hx : a.eval x = .slice p n cap) (hz : LksV w p n cap ws) (hlen : l.length + n ≤ 1000000) (hB : B ≤ w.heap.size)
    (h : ∀ v' w', OwnK w' B v' (l ++ ws) → w.grownBy w' v.ownBlock → wpList Tryd.prog ops Q rest (a.put o.dst v') w') : wpList Tryd.prog ops Q (o :: rest) a w := by
  obtain ⟨i0, hi, hz0, hz1, hz2⟩ := info_parts infoK
  have hn := hz.len
  cases p with
  | none =>
    obtain ⟨rfl, rfl⟩ := hz.nn rfl
    obtain rfl : ws = [] := List.eq_nil_of_length_eq_zero hn.symm
    refine wpList_append_own_none hgd s x 22 ho B 37 i0 35 Tryd.underlying22 hi v l.length (rowK l) hs hown hx ?_
    exact h v w (by simpa using hown) (gr_refl _ _)
  | some ad =>
    have hsrc : ∀ j u, (rowK ws)[j]? = some u → w.cell? (ad.add j) = some u := by
      rcases hz.row with h0 | ⟨b, off, e, hb, hc⟩
      · obtain rfl : ws = [] := List.eq_nil_of_length_eq_zero (by omega)
        intro j u hj; simp [rowK] at hj
      · cases e; exact lks_src hz.wf hc
    refine wpList_append_own _ hgd s x 22 ho B 37 i0 (.agg #[.int .i64 0, .int .i64 0, .int .u8 0, .int .u8 0, .int .u8 0, .int .u8 0, .int .u8 0, .int .u8 0, .int .u8 0, .int .u8 0, .int .u8 0, .int .u8 0, .int .u8 0, .int .u8 0, .int .u8 0, .int .u8 0, .int .u8 0, .int .u8 0, .int .u8 0, .int .u8 0, .int .u8 0, .int .u8 0, .int .u8 0, .int .u8 0, .int .u8 0, .int .u8 0, .int .u8 0, .int .u8 0, .int .u8 0, .int .u8 0, .int .u8 0, .int .u8 0, .int .u8 0, .int .u8 0, .slice none 0 0]) 35 72 Tryd.underlying22 hi hz0 hz1 hz2 rfl (by decide) v l.length (rowK l) hs hown ad n cap (rowK ws) hx (by rw [rowK_len hz.wf, hn]) hsrc (rowK_one ws) (by unfold maxLen; omega) (by omega) hB ?_
    intro v' w' h1 h2 _
    refine h v' w' ?_ h2
    unfold OwnK
    rw [List.length_append, rowK_app, ← hn]
    exact h1
/-- append of one link behind a slice without room -/
theorem appKF {ops : Array Oper} {rest : List Oper} {o : Oper} {a : Act} {w : World} {Q : Exit → Act → World → Prop} (hgd : o.guard = none) (s x : Operand)
    (ho : o.op = .call { callee := .builtin .append, args := #[s, x], argTypes := #[22, 22] }) (p : Option Addr) (n : Nat) (ws : List Lk) (hs : a.eval s = .slice p n n) (hz : LksV w p n n ws)
    (b : Nat) (y : Lk) (hx : a.eval x = .slice (some ⟨b, 0, none⟩) 1 1) (hb : KBlk w b y) (hlen : n ≤ 1000000)
    (h : ∀ v' w', OwnK w' w.heap.size v' (ws ++ [y]) → Below w.heap.size w w' → wpList Tryd.prog ops Q rest (a.put o.dst v') w') : wpList Tryd.prog ops Q (o :: rest) a w := by
  cases p with
  | none =>
    obtain ⟨rfl, _⟩ := hz.nn rfl
    obtain rfl : ws = [] := List.eq_nil_of_length_eq_zero hz.len.symm
    refine appK hgd s x ho w.heap.size (.slice none 0 0) [] hs ⟨rfl, .inl ⟨rfl, rfl⟩⟩ b y hx hb (by simp) (Nat.le_refl _) ?_
    intro v' w' h1 h2
    exact h v' w' h1 (gr_none h2)
  | some ad =>
    obtain ⟨i0, hi, hz0, hz1, hz2⟩ := info_parts infoK
    have hn := hz.len
    have hsrc : ∀ j u, (rowK ws)[j]? = some u → w.cell? (ad.add j) = some u := by
      rcases hz.row with h0 | ⟨b, off, e, hb, hc⟩
      · obtain rfl : ws = [] := List.eq_nil_of_length_eq_zero (by omega)
        intro j u hj; simp [rowK] at hj
      · cases e; exact lks_src hz.wf hc
    obtain ⟨v', w', hr, h1, h2⟩ := run_append_arg_grows (P := Tryd.prog) w 22 o.type 37 i0 _ 35 72 Tryd.underlying22 hi hz0 hz1 hz2 rfl (by decide) ad n n (rowK ws) (by rw [rowK_len hz.wf, hn]) hsrc ⟨b, 0, none⟩ 1 1 (lkv y) (by rw [lkv_len hb.2])
      (fun j u hj => by rw [Addr.add_mid, Nat.zero_add, hb.1.cell j, List.getElem?_toArray]; exact hj) (by omega) (by unfold maxLen; omega) (by omega)
    refine wpList_plain hgd fun _ hK => ?_
    unfold Oper.wp execOp
    simp only [ho, resolve, invoke, builtin, Sem.run_bind, Sem.run_pure, Result.andThen_ok, List.map_toArray, List.map_cons, List.map_nil, hs, hx, hr]
    refine hK _ _ (h v' w' ?_ (gr_none h2))
    unfold OwnK
    rw [List.length_append, rowK_snoc, ← hn]
    exact h1
theorem cclip_any (p : Option Addr) (n c : Nat) (w : World) (h1 : n ≤ c) (h2 : c ≤ 9223372036854775807) (h3 : p = none → n = 0 ∧ c = 0) :
    Calls Tryd.prog 21 #[.slice p n c] w fun e w' => e = .returned (.slice p n n) ∧ w' = w := by
  cases p with
  | none =>
    obtain ⟨rfl, rfl⟩ := h3 rfl
    clear h1 h2 h3
    go_enter Tryd.func21, Tryd.ntmps21
    go_wp2_with fail
    go_ret
    exact ⟨rfl, rfl⟩
  | some a =>
    clear h3
    go_enter Tryd.func21, Tryd.ntmps21
    go_wp2_with fail
    go_ret
    exact ⟨rfl, rfl⟩
set_option maxRecDepth 100000 in
theorem built_lk (x : Lk) (h : x.prev.length = 32) : Tryd.prog.built 37 [(0, .int .i64 x.node), (1, .int .i64 x.no), (2, .agg (bv x.prev).toArray), (3, x.d)] = some (lkv x).toArray := by
  obtain ⟨nd, no, zs, p, m, c, bs⟩ := x
  obtain ⟨z0, z1, z2, z3, z4, z5, z6, z7, z8, z9, z10, z11, z12, z13, z14, z15, z16, z17, z18, z19, z20, z21, z22, z23, z24, z25, z26, z27, z28, z29, z30, z31, rfl⟩ := list32 zs h
  kernel_rfl
set_option maxRecDepth 100000 in
theorem run_build1K (x : Lk) (h : x.prev.length = 32) (w : World) : (Instr.buildSlice 22 1 #[(0, .agg (lkv x).toArray)]).run Tryd.prog w = .ok (.slice (some ⟨w.heap.size, 0, none⟩) 1 1) (w.alloc (.cells (lkv x).toArray 37)) := by
  obtain ⟨nd, no, zs, p, m, c, bs⟩ := x
  obtain ⟨z0, z1, z2, z3, z4, z5, z6, z7, z8, z9, z10, z11, z12, z13, z14, z15, z16, z17, z18, z19, z20, z21, z22, z23, z24, z25, z26, z27, z28, z29, z30, z31, rfl⟩ := list32 zs h
  kernel_rfl
theorem list_build {ops : Array Oper} {Q : Exit → Act → World → Prop} {o : Oper} {rest : List Oper} {a : Act} {w : World} (hw : Region.wanted o (yielded ops a.tmps) = true) (t : TypeId) (parts : Array (Nat × Operand)) (ho : o.op = .build t parts)
    (pv : List (Nat × Value)) (hp0 : (parts.toList.map fun (i, x) => (i, a.eval x)) = pv) (cs : Array Value) (hb : Tryd.prog.built t pv = some cs)
    (h : wpList Tryd.prog ops Q rest (a.put o.dst (.agg cs)) w) : wpList Tryd.prog ops Q (o :: rest) a w := by
  have hp : (parts.map fun (i, x) => (i, a.eval x)).toList = pv := by rw [Array.toList_map]; exact hp0
  refine wpList_step fun K hK => ?_
  rw [if_pos hw]
  refine wp_build t parts ho (by rw [hp, hb]; rfl) ?_
  rw [hp, hb]
  exact hK _ _ h
theorem list_build1K {ops : Array Oper} {Q : Exit → Act → World → Prop} {o : Oper} {rest : List Oper} {a : Act} {w : World} (hw : Region.wanted o (yielded ops a.tmps) = true) (x : Operand) (ho : o.op = .buildSlice 22 1 #[(0, x)]) (y : Lk) (hx : a.eval x = .agg (lkv y).toArray) (hl : y.prev.length = 32)
    (h : wpList Tryd.prog ops Q rest (a.put o.dst (.slice (some ⟨w.heap.size, 0, none⟩) 1 1)) (w.alloc (.cells (lkv y).toArray 37))) : wpList Tryd.prog ops Q (o :: rest) a w := by
  refine wpList_step fun K hK => ?_
  rw [if_pos hw]
  have e : (execOp a.eval o).run Tryd.prog w = .ok (.value (.slice (some ⟨w.heap.size, 0, none⟩) 1 1)) (w.alloc (.cells (lkv y).toArray 37)) := by
    unfold execOp
    simp only [ho, List.map_toArray, List.map_cons, List.map_nil, hx, Sem.run_bind]
    rw [run_build1K y hl w]
    rfl
  unfold Oper.wp
  rw [e]
  exact hK _ _ h
end Go.Proofs.YtllcgehfmkmcdaaDoor
