/- Package elgamal: Seal. -/
import Derived.Deep.RegionWith
import Derived.Test.YtpjobllfiimdkaaGreatDoorElgZB
namespace Go.Proofs.YtpjobllfiimdkaaGreatDoor
open Go.RowKit Go.Shelf
set_option linter.unusedVariables false

/-- three ciphers -/
abbrev Let := (Int × Int) × (Int × Int) × (Int × Int)
abbrev letV (l : Let) : Value := sealedV l.1.1 l.1.2 l.2.1.1 l.2.1.2 l.2.2.1 l.2.2.2
def zeroL : Let := ((0, 0), (0, 0), (0, 0))
def mapL (g : Nat → Int × Int → Int × Int) (l : Let) : Let := (g 0 l.1, g 1 l.2.1, g 2 l.2.2)

/-- a result of six cells in block b, which may be written; nothing below it has turned since W -/
def Res6 (W : World) (b : Nat) (t : TypeId) (w' : World) : Prop := Below b W w' ∧ W.heap.size ≤ w'.heap.size ∧ ∃ c : Array Value, c.size = 6 ∧ Blk w' b c t
theorem Res6.drew {W : World} {b : Nat} {t : TypeId} {w' : World} (h : Res6 W b t w') : Res6 W b t w'.drew := ⟨h.1.drew, h.2⟩
theorem Res6.call {W : World} {b : Nat} {t : TypeId} {w' w'' : World} (h : Res6 W b t w') (k : Below w'.heap.size w' w'') : Res6 W b t w'' := by
  obtain ⟨h1, h2, c, hc, hB⟩ := h
  exact ⟨h1.trans (k.mono (Nat.le_of_lt hB.lt)), Nat.le_trans h2 k.size, c, hc, hB.below k hB.lt⟩
theorem Res6.alloc {W : World} {b : Nat} {t : TypeId} {w' : World} (h : Res6 W b t w') (o : Obj) : Res6 W b t (w'.alloc o) := h.call (bel_alloc1 _ _)
theorem Res6.set {W : World} {b : Nat} {t : TypeId} {w' : World} (h : Res6 W b t w') (o : Nat) (v : Value) : Res6 W b t (w'.setCell ⟨b, o, none⟩ v) := by
  obtain ⟨h1, h2, c, hc, hB⟩ := h
  exact ⟨h1.setCell (p := ⟨b, o, none⟩) (Nat.le_refl _) v, by simp [World.setCell]; exact h2, _, by simp [hc], hB.set o v⟩
theorem Res6.cell {W : World} {b : Nat} {t : TypeId} {w' : World} (h : Res6 W b t w') {k : Nat} (hk : k < 6) : w'.cell? ⟨b, k, none⟩ = some (rc w' ⟨b, k, none⟩) := by
  obtain ⟨h1, h2, c, hc, hB⟩ := h
  exact rc_some ⟨_, (hB.cell k).trans (Array.getElem?_eq_getElem (by omega))⟩
theorem Res6.frozen {W : World} {b : Nat} {t : TypeId} {w' : World} (h : Res6 W b t w') (k : Nat) : w'.frozen? ⟨b, k, none⟩ = false := by
  obtain ⟨h1, h2, c, hc, hB⟩ := h
  exact hB.frozen k

/-- what a block was before one of its cells was written -/
theorem Blk.unset {W : World} {b o : Nat} {v : Value} {c : Array Value} {t : TypeId} (h : Blk (W.setCell ⟨b, o, none⟩ v) b c t) : ∃ c', Blk W b c' t ∧ c = c'.setIfInBounds o v := by
  have h' : (W.heap.modify b _)[b]? = some (.cells c t (0, 0)) := h
  rw [Array.getElem?_modify, if_pos rfl] at h'
  cases hc : W.heap[b]? with
  | none => rw [hc] at h'; cases h'
  | some x =>
    rw [hc] at h'
    cases x with
    | cells d u f =>
      simp only [Option.map_some, Option.some.injEq, Obj.cells.injEq] at h'
      obtain ⟨e1, rfl, rfl⟩ := h'
      exact ⟨d, hc, e1.symm⟩
    | _ => simp at h'

theorem six_of_size {c : Array Value} (h : c.size = 6) : ∃ x0 x1 x2 x3 x4 x5, c = #[x0, x1, x2, x3, x4, x5] := by
  obtain ⟨l⟩ := c
  match l, h with
  | [x0, x1, x2, x3, x4, x5], _ => exact ⟨x0, x1, x2, x3, x4, x5, rfl⟩

theorem blk6_final {W : World} {b : Nat} {c : Array Value} {t : TypeId} {v0 v1 v2 v3 v4 v5 : Value} (hs : c.size = 6)
    (h : Blk ((((((W.setCell ⟨b, 0, none⟩ v0).setCell ⟨b, 1, none⟩ v1).setCell ⟨b, 2, none⟩ v2).setCell ⟨b, 3, none⟩ v3).setCell ⟨b, 4, none⟩ v4).setCell ⟨b, 5, none⟩ v5) b c t) : c = #[v0, v1, v2, v3, v4, v5] := by
  obtain ⟨c5, h5, rfl⟩ := h.unset
  obtain ⟨c4, h4, rfl⟩ := h5.unset
  obtain ⟨c3, h3, rfl⟩ := h4.unset
  obtain ⟨c2, h2, rfl⟩ := h3.unset
  obtain ⟨c1, h1, rfl⟩ := h2.unset
  obtain ⟨c0, h0, rfl⟩ := h1.unset
  simp only [Array.size_setIfInBounds] at hs
  obtain ⟨x0, x1, x2, x3, x4, x5, rfl⟩ := six_of_size hs
  rfl

theorem Res6.final {W w' : World} {b : Nat} {t : TypeId} {v0 v1 v2 v3 v4 v5 : Value}
    (h : Res6 W b t ((((((w'.setCell ⟨b, 0, none⟩ v0).setCell ⟨b, 1, none⟩ v1).setCell ⟨b, 2, none⟩ v2).setCell ⟨b, 3, none⟩ v3).setCell ⟨b, 4, none⟩ v4).setCell ⟨b, 5, none⟩ v5)) :
    Blk ((((((w'.setCell ⟨b, 0, none⟩ v0).setCell ⟨b, 1, none⟩ v1).setCell ⟨b, 2, none⟩ v2).setCell ⟨b, 3, none⟩ v3).setCell ⟨b, 4, none⟩ v4).setCell ⟨b, 5, none⟩ v5) b #[v0, v1, v2, v3, v4, v5] t := by
  obtain ⟨h1, h2, c, hc, hB⟩ := h
  have e := blk6_final hc hB
  rw [e] at hB; exact hB

theorem res6_ret {W : World} {b : Nat} {t : TypeId} {v0 v1 v2 v3 v4 v5 : Value} (h : Blk W b #[v0, v1, v2, v3, v4, v5] t) :
    W.cell? ⟨b, 0, none⟩ = some v0 ∧ W.cell? ⟨b, 1, none⟩ = some v1 ∧ W.cell? ⟨b, 2, none⟩ = some v2 ∧ W.cell? ⟨b, 3, none⟩ = some v3 ∧ W.cell? ⟨b, 4, none⟩ = some v4 ∧ W.cell? ⟨b, 5, none⟩ = some v5 :=
  ⟨h.cell 0, h.cell 1, h.cell 2, h.cell 3, h.cell 4, h.cell 5⟩

theorem blk3_facts {W : World} {b : Nat} {t : TypeId} {v0 v1 v2 : Value} (h : Blk W b #[v0, v1, v2] t) : W.cell? ⟨b, 0, none⟩ = some v0 ∧ W.cell? ⟨b, 1, none⟩ = some v1 ∧ W.cell? ⟨b, 2, none⟩ = some v2 := ⟨h.cell 0, h.cell 1, h.cell 2⟩
theorem blk6_facts {W : World} {b : Nat} {t : TypeId} {v0 v1 v2 v3 v4 v5 : Value} (h : Blk W b #[v0, v1, v2, v3, v4, v5] t) :
    W.cell? ⟨b, 0, none⟩ = some v0 ∧ W.cell? ⟨b, 1, none⟩ = some v1 ∧ W.cell? ⟨b, 2, none⟩ = some v2 ∧ W.cell? ⟨b, 3, none⟩ = some v3 ∧ W.cell? ⟨b, 4, none⟩ = some v4 ∧ W.cell? ⟨b, 5, none⟩ = some v5 ∧
    W.frozen? ⟨b, 0, none⟩ = false ∧ W.frozen? ⟨b, 1, none⟩ = false ∧ W.frozen? ⟨b, 2, none⟩ = false ∧ W.frozen? ⟨b, 3, none⟩ = false ∧ W.frozen? ⟨b, 4, none⟩ = false ∧ W.frozen? ⟨b, 5, none⟩ = false :=
  ⟨h.cell 0, h.cell 1, h.cell 2, h.cell 3, h.cell 4, h.cell 5, h.frozen 0, h.frozen 1, h.frozen 2, h.frozen 3, h.frozen 4, h.frozen 5⟩

theorem bcell {W w1 : World} (hb : Below W.heap.size W w1) : (∀ b o, b < W.heap.size → w1.cell? ⟨b, o, none⟩ = W.cell? ⟨b, o, none⟩) ∧ (∀ b o, b < W.heap.size → w1.frozen? ⟨b, o, none⟩ = W.frozen? ⟨b, o, none⟩) :=
  ⟨fun b o h => hb.cell (p := ⟨b, o, none⟩) h, fun b o h => hb.frozen (p := ⟨b, o, none⟩) h⟩

def wordB (n : Int) : Bool := decide (1 ≤ n ∧ n ≤ 1073741789)
def sealE (key n0 n1 n2 : Int) : Int := if elB key then (if wordB n0 && wordB n1 && wordB n2 then 0 else 100) else 90
def sealL (key n0 n1 n2 r0 r1 r2 : Int) : Let := mapL (fun i c => gMask key r0 r1 r2 i (gSay n0 n1 n2 i c)) zeroL
def sealR (key n0 n1 n2 r0 r1 r2 : Int) : Let := if elB key then (if wordB n0 && wordB n1 && wordB n2 then sealL key n0 n1 n2 r0 r1 r2 else zeroL) else zeroL

set_option maxRecDepth 100000 in
set_option maxHeartbeats 2000000 in
theorem seal_no (key n0 n1 n2 r0 r1 r2 : Int) (w : World) (hv : elB key = false) :
    Calls Tryz.prog 27 #[.int .i64 key, .agg #[.int .i64 n0, .int .i64 n1, .int .i64 n2], .agg #[.int .i64 r0, .int .i64 r1, .int .i64 r2]] w
      fun e w' => e = .returned (.tuple #[letV zeroL, .int .i64 90]) ∧ Below w.heap.size w w' := by
  go_enter Tryz.func27, Tryz.ntmps27
  go_wp2_with fail
  refine (val_c key false _ hv).mono ?_; rintro e w' ⟨rfl, rfl⟩
  go_wp2_with fail
  refine bodyPost_ret (v := .tuple #[letV zeroL, .int .i64 90]) (by simp [results, Tryz.f27, go_sem, zeroL]) rfl ⟨rfl, ?_⟩
  exact ((bel_alloc1 _ _).alloc (by simp) _).alloc (by simp; omega) _

theorem seal_call (key n0 n1 n2 r0 r1 r2 : Int) (bs bm : Nat) (L : Let) (w : World) (hL : L = sealL key n0 n1 n2 r0 r1 r2) (hs : SayAt w bs n0 n1 n2) (hm : MaskAt w bm key r0 r1 r2) :
    Calls Tryz.prog 31 #[sealedV 0 0 0 0 0 0, .slice (some ⟨w.heap.size, 0, none⟩) 2 2] (w.alloc (.cells #[.func (.func 86) #[] #[.pointer (some ⟨bs, 0, none⟩)], .func (.func 88) #[] #[.pointer (some ⟨bm + 1, 0, none⟩), .pointer (some ⟨bm, 0, none⟩)]] 91))
      fun e w' => e = .returned (letV L) ∧ Below w.heap.size w w' := by
  subst hL
  refine (changed_any 0 0 0 0 0 0 _ 2 2 _ _ _ _ (by omega) (by simp) (sayMask_chs hs hm)).mono fun e w' h => ⟨h.1, ?_⟩
  exact (bel_alloc1 _ _).trans (h.2.mono (by simp))
end Go.Proofs.YtpjobllfiimdkaaGreatDoor
namespace Go.Proofs.YtpjobllfiimdkaaGreatDoor
open Go.RowKit Go.Shelf
set_option linter.unusedVariables false

set_option maxRecDepth 100000 in
set_option maxHeartbeats 4000000 in
theorem seal_yes (key n0 n1 n2 r0 r1 r2 : Int) (w : World) (hv : elB key = true) (L : Let) (E : Int)
    (hY : Hid (wordB n0 = true ∧ wordB n1 = true ∧ wordB n2 = true → L = sealL key n0 n1 n2 r0 r1 r2 ∧ E = 0)) (hN : Hid (wordB n0 = false ∨ wordB n1 = false ∨ wordB n2 = false → L = zeroL ∧ E = 100)) :
    Calls Tryz.prog 27 #[.int .i64 key, .agg #[.int .i64 n0, .int .i64 n1, .int .i64 n2], .agg #[.int .i64 r0, .int .i64 r1, .int .i64 r2]] w
      fun e w' => e = .returned (.tuple #[letV L, .int .i64 E]) ∧ Below w.heap.size w w' := by
  have i0 : ∀ w, (Instr.index 23 (.agg #[.int .i64 n0, .int .i64 n1, .int .i64 n2]) (.int .i64 0)).run Tryz.prog w = .ok (.int .i64 n0) w := fun _ => by kernel_rfl
  have i1 : ∀ w, (Instr.index 23 (.agg #[.int .i64 n0, .int .i64 n1, .int .i64 n2]) (.int .i64 1)).run Tryz.prog w = .ok (.int .i64 n1) w := fun _ => by kernel_rfl
  have i2 : ∀ w, (Instr.index 23 (.agg #[.int .i64 n0, .int .i64 n1, .int .i64 n2]) (.int .i64 2)).run Tryz.prog w = .ok (.int .i64 n2) w := fun _ => by kernel_rfl
  go_enter Tryz.func27, Tryz.ntmps27
  go_wp2_with fail
  refine (val_c key true _ hv).mono ?_; rintro e w' ⟨rfl, rfl⟩
  obtain ⟨W, hW⟩ : ∃ W, ((w.alloc (.cells #[.int .i64 n0, .int .i64 n1, .int .i64 n2] 23)).alloc (.cells #[.int .i64 r0, .int .i64 r1, .int .i64 r2] 22)).alloc (.cells #[.int .i64 0, .int .i64 0, .int .i64 0, .int .i64 0, .int .i64 0, .int .i64 0] 32) = W := ⟨_, rfl⟩
  have hB : Below w.heap.size w W := by rw [← hW]; exact ((bel_alloc1 _ _).alloc (by simp) _).alloc (by simp; omega) _
  have k0 : Blk W w.heap.size #[.int .i64 n0, .int .i64 n1, .int .i64 n2] 23 := by
    rw [← hW]; exact ((Blk.new w _ _).alloc _).alloc _
  have k1 : Blk W (w.heap.size + 1) #[.int .i64 r0, .int .i64 r1, .int .i64 r2] 22 := by
    rw [← hW]; have h := Blk.new (w.alloc (.cells #[.int .i64 n0, .int .i64 n1, .int .i64 n2] 23)) #[.int .i64 r0, .int .i64 r1, .int .i64 r2] 22
    rw [World.size_alloc] at h; exact h.alloc _
  have k2 : Blk W (w.heap.size + 1 + 1) #[.int .i64 0, .int .i64 0, .int .i64 0, .int .i64 0, .int .i64 0, .int .i64 0] 32 := by
    rw [← hW]; have h := Blk.new ((w.alloc (.cells #[.int .i64 n0, .int .i64 n1, .int .i64 n2] 23)).alloc (.cells #[.int .i64 r0, .int .i64 r1, .int .i64 r2] 22)) #[.int .i64 0, .int .i64 0, .int .i64 0, .int .i64 0, .int .i64 0, .int .i64 0] 32
    rw [World.size_alloc, World.size_alloc] at h; exact h
  rw [hW]
  clear hW hv
  have K0 := Lib.hid k0; have K1 := Lib.hid k1; have K2 := Lib.hid k2; have HB := Lib.hid hB
  have a0 := k0.cell 0; have a1 := k0.cell 1; have a2 := k0.cell 2
  have z0 := k2.cell 0; have z1 := k2.cell 1; have z2 := k2.cell 2; have z3 := k2.cell 3; have z4 := k2.cell 4; have z5 := k2.cell 5
  have f0 := k2.frozen 0; have f1 := k2.frozen 1; have f2 := k2.frozen 2; have f3 := k2.frozen 3; have f4 := k2.frozen 4; have f5 := k2.frozen 5
  simp at a0 a1 a2 z0 z1 z2 z3 z4 z5
  clear k0 k1 k2 hB
  go_wp2
  go_loop [15] (fun i => i = .int .i64 0 ∨ (i = .int .i64 1 ∧ Hid (wordB n0 = true)) ∨ (i = .int .i64 2 ∧ Hid (wordB n0 = true ∧ wordB n1 = true)) ∨ (i = .int .i64 3 ∧ Hid (wordB n0 = true ∧ wordB n1 = true ∧ wordB n2 = true))) (fun i => (3 - intOf i).toNat)
  case atStart => exact .inl rfl
  case round =>
    rcases hrel with rfl | ⟨rfl, hp⟩ | ⟨rfl, hp⟩ | ⟨rfl, hp⟩
    · skip
      by_cases hw : wordB n0 = true
      · have HN : 1 ≤ n0 ∧ n0 ≤ 1073741789 := of_decide_eq_true hw
        obtain ⟨h1, h2⟩ := HN
        have HW := Lib.hid hw; clear hw
        go_wp2
        go_round
        case rel => exact .inr (.inl ⟨rfl, HW⟩)
        case measure => simp [intOf]
      · have hw : wordB n0 = false := by simpa using hw
        have HN : ¬ (1 ≤ n0 ∧ n0 ≤ 1073741789) := of_decide_eq_false hw
        have HW := Lib.hid hw; clear hw
        by_cases h1 : n0 < 1
        · clear HN
          go_wp2
          have hJ : Blk ((((((W.setCell ⟨w.heap.size + 1 + 1, 0, none⟩ (.int .i64 0)).setCell ⟨w.heap.size + 1 + 1, 1, none⟩ (.int .i64 0)).setCell ⟨w.heap.size + 1 + 1, 2, none⟩ (.int .i64 0)).setCell ⟨w.heap.size + 1 + 1, 3, none⟩ (.int .i64 0)).setCell ⟨w.heap.size + 1 + 1, 4, none⟩ (.int .i64 0)).setCell ⟨w.heap.size + 1 + 1, 5, none⟩ (.int .i64 0)) (w.heap.size + 1 + 1) #[.int .i64 0, .int .i64 0, .int .i64 0, .int .i64 0, .int .i64 0, .int .i64 0] 32 := ((((((K2.out.set 0 (.int .i64 0)).set 1 (.int .i64 0)).set 2 (.int .i64 0)).set 3 (.int .i64 0)).set 4 (.int .i64 0)).set 5 (.int .i64 0))
          have hBw : Below w.heap.size w ((((((W.setCell ⟨w.heap.size + 1 + 1, 0, none⟩ (.int .i64 0)).setCell ⟨w.heap.size + 1 + 1, 1, none⟩ (.int .i64 0)).setCell ⟨w.heap.size + 1 + 1, 2, none⟩ (.int .i64 0)).setCell ⟨w.heap.size + 1 + 1, 3, none⟩ (.int .i64 0)).setCell ⟨w.heap.size + 1 + 1, 4, none⟩ (.int .i64 0)).setCell ⟨w.heap.size + 1 + 1, 5, none⟩ (.int .i64 0)) := ((((((HB.out.setCell (p := ⟨w.heap.size + 1 + 1, 0, none⟩) (by simp; omega) _).setCell (p := ⟨w.heap.size + 1 + 1, 1, none⟩) (by simp; omega) _).setCell (p := ⟨w.heap.size + 1 + 1, 2, none⟩) (by simp; omega) _).setCell (p := ⟨w.heap.size + 1 + 1, 3, none⟩) (by simp; omega) _).setCell (p := ⟨w.heap.size + 1 + 1, 4, none⟩) (by simp; omega) _).setCell (p := ⟨w.heap.size + 1 + 1, 5, none⟩) (by simp; omega) _)
          generalize ((((((W.setCell ⟨w.heap.size + 1 + 1, 0, none⟩ (.int .i64 0)).setCell ⟨w.heap.size + 1 + 1, 1, none⟩ (.int .i64 0)).setCell ⟨w.heap.size + 1 + 1, 2, none⟩ (.int .i64 0)).setCell ⟨w.heap.size + 1 + 1, 3, none⟩ (.int .i64 0)).setCell ⟨w.heap.size + 1 + 1, 4, none⟩ (.int .i64 0)).setCell ⟨w.heap.size + 1 + 1, 5, none⟩ (.int .i64 0)) = W2 at hJ hBw ⊢
          obtain ⟨e0, e1, e2, e3, e4, e5⟩ := res6_ret hJ
          refine bodyPost_ret (v := .tuple #[letV zeroL, .int .i64 100]) (by simp [results, Tryz.f27, go_sem, zeroL, e0, e1, e2, e3, e4, e5]) rfl ⟨by rw [(hN.out (.inl HW.out)).1, (hN.out (.inl HW.out)).2], hBw⟩
        · have h2 : 1073741789 < n0 := by omega
          clear HN
          go_wp2
          have hJ : Blk ((((((W.setCell ⟨w.heap.size + 1 + 1, 0, none⟩ (.int .i64 0)).setCell ⟨w.heap.size + 1 + 1, 1, none⟩ (.int .i64 0)).setCell ⟨w.heap.size + 1 + 1, 2, none⟩ (.int .i64 0)).setCell ⟨w.heap.size + 1 + 1, 3, none⟩ (.int .i64 0)).setCell ⟨w.heap.size + 1 + 1, 4, none⟩ (.int .i64 0)).setCell ⟨w.heap.size + 1 + 1, 5, none⟩ (.int .i64 0)) (w.heap.size + 1 + 1) #[.int .i64 0, .int .i64 0, .int .i64 0, .int .i64 0, .int .i64 0, .int .i64 0] 32 := ((((((K2.out.set 0 (.int .i64 0)).set 1 (.int .i64 0)).set 2 (.int .i64 0)).set 3 (.int .i64 0)).set 4 (.int .i64 0)).set 5 (.int .i64 0))
          have hBw : Below w.heap.size w ((((((W.setCell ⟨w.heap.size + 1 + 1, 0, none⟩ (.int .i64 0)).setCell ⟨w.heap.size + 1 + 1, 1, none⟩ (.int .i64 0)).setCell ⟨w.heap.size + 1 + 1, 2, none⟩ (.int .i64 0)).setCell ⟨w.heap.size + 1 + 1, 3, none⟩ (.int .i64 0)).setCell ⟨w.heap.size + 1 + 1, 4, none⟩ (.int .i64 0)).setCell ⟨w.heap.size + 1 + 1, 5, none⟩ (.int .i64 0)) := ((((((HB.out.setCell (p := ⟨w.heap.size + 1 + 1, 0, none⟩) (by simp; omega) _).setCell (p := ⟨w.heap.size + 1 + 1, 1, none⟩) (by simp; omega) _).setCell (p := ⟨w.heap.size + 1 + 1, 2, none⟩) (by simp; omega) _).setCell (p := ⟨w.heap.size + 1 + 1, 3, none⟩) (by simp; omega) _).setCell (p := ⟨w.heap.size + 1 + 1, 4, none⟩) (by simp; omega) _).setCell (p := ⟨w.heap.size + 1 + 1, 5, none⟩) (by simp; omega) _)
          generalize ((((((W.setCell ⟨w.heap.size + 1 + 1, 0, none⟩ (.int .i64 0)).setCell ⟨w.heap.size + 1 + 1, 1, none⟩ (.int .i64 0)).setCell ⟨w.heap.size + 1 + 1, 2, none⟩ (.int .i64 0)).setCell ⟨w.heap.size + 1 + 1, 3, none⟩ (.int .i64 0)).setCell ⟨w.heap.size + 1 + 1, 4, none⟩ (.int .i64 0)).setCell ⟨w.heap.size + 1 + 1, 5, none⟩ (.int .i64 0)) = W2 at hJ hBw ⊢
          obtain ⟨e0, e1, e2, e3, e4, e5⟩ := res6_ret hJ
          refine bodyPost_ret (v := .tuple #[letV zeroL, .int .i64 100]) (by simp [results, Tryz.f27, go_sem, zeroL, e0, e1, e2, e3, e4, e5]) rfl ⟨by rw [(hN.out (.inl HW.out)).1, (hN.out (.inl HW.out)).2], hBw⟩
    · skip
      by_cases hw : wordB n1 = true
      · have HN : 1 ≤ n1 ∧ n1 ≤ 1073741789 := of_decide_eq_true hw
        obtain ⟨h1, h2⟩ := HN
        have HW := Lib.hid hw; clear hw
        go_wp2
        go_round
        case rel => exact .inr (.inr (.inl ⟨rfl, Lib.hid ⟨hp.out, HW.out⟩⟩))
        case measure => simp [intOf]
      · have hw : wordB n1 = false := by simpa using hw
        have HN : ¬ (1 ≤ n1 ∧ n1 ≤ 1073741789) := of_decide_eq_false hw
        have HW := Lib.hid hw; clear hw
        by_cases h1 : n1 < 1
        · clear HN
          go_wp2
          have hJ : Blk ((((((W.setCell ⟨w.heap.size + 1 + 1, 0, none⟩ (.int .i64 0)).setCell ⟨w.heap.size + 1 + 1, 1, none⟩ (.int .i64 0)).setCell ⟨w.heap.size + 1 + 1, 2, none⟩ (.int .i64 0)).setCell ⟨w.heap.size + 1 + 1, 3, none⟩ (.int .i64 0)).setCell ⟨w.heap.size + 1 + 1, 4, none⟩ (.int .i64 0)).setCell ⟨w.heap.size + 1 + 1, 5, none⟩ (.int .i64 0)) (w.heap.size + 1 + 1) #[.int .i64 0, .int .i64 0, .int .i64 0, .int .i64 0, .int .i64 0, .int .i64 0] 32 := ((((((K2.out.set 0 (.int .i64 0)).set 1 (.int .i64 0)).set 2 (.int .i64 0)).set 3 (.int .i64 0)).set 4 (.int .i64 0)).set 5 (.int .i64 0))
          have hBw : Below w.heap.size w ((((((W.setCell ⟨w.heap.size + 1 + 1, 0, none⟩ (.int .i64 0)).setCell ⟨w.heap.size + 1 + 1, 1, none⟩ (.int .i64 0)).setCell ⟨w.heap.size + 1 + 1, 2, none⟩ (.int .i64 0)).setCell ⟨w.heap.size + 1 + 1, 3, none⟩ (.int .i64 0)).setCell ⟨w.heap.size + 1 + 1, 4, none⟩ (.int .i64 0)).setCell ⟨w.heap.size + 1 + 1, 5, none⟩ (.int .i64 0)) := ((((((HB.out.setCell (p := ⟨w.heap.size + 1 + 1, 0, none⟩) (by simp; omega) _).setCell (p := ⟨w.heap.size + 1 + 1, 1, none⟩) (by simp; omega) _).setCell (p := ⟨w.heap.size + 1 + 1, 2, none⟩) (by simp; omega) _).setCell (p := ⟨w.heap.size + 1 + 1, 3, none⟩) (by simp; omega) _).setCell (p := ⟨w.heap.size + 1 + 1, 4, none⟩) (by simp; omega) _).setCell (p := ⟨w.heap.size + 1 + 1, 5, none⟩) (by simp; omega) _)
          generalize ((((((W.setCell ⟨w.heap.size + 1 + 1, 0, none⟩ (.int .i64 0)).setCell ⟨w.heap.size + 1 + 1, 1, none⟩ (.int .i64 0)).setCell ⟨w.heap.size + 1 + 1, 2, none⟩ (.int .i64 0)).setCell ⟨w.heap.size + 1 + 1, 3, none⟩ (.int .i64 0)).setCell ⟨w.heap.size + 1 + 1, 4, none⟩ (.int .i64 0)).setCell ⟨w.heap.size + 1 + 1, 5, none⟩ (.int .i64 0)) = W2 at hJ hBw ⊢
          obtain ⟨e0, e1, e2, e3, e4, e5⟩ := res6_ret hJ
          refine bodyPost_ret (v := .tuple #[letV zeroL, .int .i64 100]) (by simp [results, Tryz.f27, go_sem, zeroL, e0, e1, e2, e3, e4, e5]) rfl ⟨by rw [(hN.out (.inr (.inl HW.out))).1, (hN.out (.inr (.inl HW.out))).2], hBw⟩
        · have h2 : 1073741789 < n1 := by omega
          clear HN
          go_wp2
          have hJ : Blk ((((((W.setCell ⟨w.heap.size + 1 + 1, 0, none⟩ (.int .i64 0)).setCell ⟨w.heap.size + 1 + 1, 1, none⟩ (.int .i64 0)).setCell ⟨w.heap.size + 1 + 1, 2, none⟩ (.int .i64 0)).setCell ⟨w.heap.size + 1 + 1, 3, none⟩ (.int .i64 0)).setCell ⟨w.heap.size + 1 + 1, 4, none⟩ (.int .i64 0)).setCell ⟨w.heap.size + 1 + 1, 5, none⟩ (.int .i64 0)) (w.heap.size + 1 + 1) #[.int .i64 0, .int .i64 0, .int .i64 0, .int .i64 0, .int .i64 0, .int .i64 0] 32 := ((((((K2.out.set 0 (.int .i64 0)).set 1 (.int .i64 0)).set 2 (.int .i64 0)).set 3 (.int .i64 0)).set 4 (.int .i64 0)).set 5 (.int .i64 0))
          have hBw : Below w.heap.size w ((((((W.setCell ⟨w.heap.size + 1 + 1, 0, none⟩ (.int .i64 0)).setCell ⟨w.heap.size + 1 + 1, 1, none⟩ (.int .i64 0)).setCell ⟨w.heap.size + 1 + 1, 2, none⟩ (.int .i64 0)).setCell ⟨w.heap.size + 1 + 1, 3, none⟩ (.int .i64 0)).setCell ⟨w.heap.size + 1 + 1, 4, none⟩ (.int .i64 0)).setCell ⟨w.heap.size + 1 + 1, 5, none⟩ (.int .i64 0)) := ((((((HB.out.setCell (p := ⟨w.heap.size + 1 + 1, 0, none⟩) (by simp; omega) _).setCell (p := ⟨w.heap.size + 1 + 1, 1, none⟩) (by simp; omega) _).setCell (p := ⟨w.heap.size + 1 + 1, 2, none⟩) (by simp; omega) _).setCell (p := ⟨w.heap.size + 1 + 1, 3, none⟩) (by simp; omega) _).setCell (p := ⟨w.heap.size + 1 + 1, 4, none⟩) (by simp; omega) _).setCell (p := ⟨w.heap.size + 1 + 1, 5, none⟩) (by simp; omega) _)
          generalize ((((((W.setCell ⟨w.heap.size + 1 + 1, 0, none⟩ (.int .i64 0)).setCell ⟨w.heap.size + 1 + 1, 1, none⟩ (.int .i64 0)).setCell ⟨w.heap.size + 1 + 1, 2, none⟩ (.int .i64 0)).setCell ⟨w.heap.size + 1 + 1, 3, none⟩ (.int .i64 0)).setCell ⟨w.heap.size + 1 + 1, 4, none⟩ (.int .i64 0)).setCell ⟨w.heap.size + 1 + 1, 5, none⟩ (.int .i64 0)) = W2 at hJ hBw ⊢
          obtain ⟨e0, e1, e2, e3, e4, e5⟩ := res6_ret hJ
          refine bodyPost_ret (v := .tuple #[letV zeroL, .int .i64 100]) (by simp [results, Tryz.f27, go_sem, zeroL, e0, e1, e2, e3, e4, e5]) rfl ⟨by rw [(hN.out (.inr (.inl HW.out))).1, (hN.out (.inr (.inl HW.out))).2], hBw⟩
    · skip
      by_cases hw : wordB n2 = true
      · have HN : 1 ≤ n2 ∧ n2 ≤ 1073741789 := of_decide_eq_true hw
        obtain ⟨h1, h2⟩ := HN
        have HW := Lib.hid hw; clear hw
        go_wp2
        go_round
        case rel => exact .inr (.inr (.inr ⟨rfl, Lib.hid ⟨hp.out.1, hp.out.2, HW.out⟩⟩))
        case measure => simp [intOf]
      · have hw : wordB n2 = false := by simpa using hw
        have HN : ¬ (1 ≤ n2 ∧ n2 ≤ 1073741789) := of_decide_eq_false hw
        have HW := Lib.hid hw; clear hw
        by_cases h1 : n2 < 1
        · clear HN
          go_wp2
          have hJ : Blk ((((((W.setCell ⟨w.heap.size + 1 + 1, 0, none⟩ (.int .i64 0)).setCell ⟨w.heap.size + 1 + 1, 1, none⟩ (.int .i64 0)).setCell ⟨w.heap.size + 1 + 1, 2, none⟩ (.int .i64 0)).setCell ⟨w.heap.size + 1 + 1, 3, none⟩ (.int .i64 0)).setCell ⟨w.heap.size + 1 + 1, 4, none⟩ (.int .i64 0)).setCell ⟨w.heap.size + 1 + 1, 5, none⟩ (.int .i64 0)) (w.heap.size + 1 + 1) #[.int .i64 0, .int .i64 0, .int .i64 0, .int .i64 0, .int .i64 0, .int .i64 0] 32 := ((((((K2.out.set 0 (.int .i64 0)).set 1 (.int .i64 0)).set 2 (.int .i64 0)).set 3 (.int .i64 0)).set 4 (.int .i64 0)).set 5 (.int .i64 0))
          have hBw : Below w.heap.size w ((((((W.setCell ⟨w.heap.size + 1 + 1, 0, none⟩ (.int .i64 0)).setCell ⟨w.heap.size + 1 + 1, 1, none⟩ (.int .i64 0)).setCell ⟨w.heap.size + 1 + 1, 2, none⟩ (.int .i64 0)).setCell ⟨w.heap.size + 1 + 1, 3, none⟩ (.int .i64 0)).setCell ⟨w.heap.size + 1 + 1, 4, none⟩ (.int .i64 0)).setCell ⟨w.heap.size + 1 + 1, 5, none⟩ (.int .i64 0)) := ((((((HB.out.setCell (p := ⟨w.heap.size + 1 + 1, 0, none⟩) (by simp; omega) _).setCell (p := ⟨w.heap.size + 1 + 1, 1, none⟩) (by simp; omega) _).setCell (p := ⟨w.heap.size + 1 + 1, 2, none⟩) (by simp; omega) _).setCell (p := ⟨w.heap.size + 1 + 1, 3, none⟩) (by simp; omega) _).setCell (p := ⟨w.heap.size + 1 + 1, 4, none⟩) (by simp; omega) _).setCell (p := ⟨w.heap.size + 1 + 1, 5, none⟩) (by simp; omega) _)
          generalize ((((((W.setCell ⟨w.heap.size + 1 + 1, 0, none⟩ (.int .i64 0)).setCell ⟨w.heap.size + 1 + 1, 1, none⟩ (.int .i64 0)).setCell ⟨w.heap.size + 1 + 1, 2, none⟩ (.int .i64 0)).setCell ⟨w.heap.size + 1 + 1, 3, none⟩ (.int .i64 0)).setCell ⟨w.heap.size + 1 + 1, 4, none⟩ (.int .i64 0)).setCell ⟨w.heap.size + 1 + 1, 5, none⟩ (.int .i64 0)) = W2 at hJ hBw ⊢
          obtain ⟨e0, e1, e2, e3, e4, e5⟩ := res6_ret hJ
          refine bodyPost_ret (v := .tuple #[letV zeroL, .int .i64 100]) (by simp [results, Tryz.f27, go_sem, zeroL, e0, e1, e2, e3, e4, e5]) rfl ⟨by rw [(hN.out (.inr (.inr HW.out))).1, (hN.out (.inr (.inr HW.out))).2], hBw⟩
        · have h2 : 1073741789 < n2 := by omega
          clear HN
          go_wp2
          have hJ : Blk ((((((W.setCell ⟨w.heap.size + 1 + 1, 0, none⟩ (.int .i64 0)).setCell ⟨w.heap.size + 1 + 1, 1, none⟩ (.int .i64 0)).setCell ⟨w.heap.size + 1 + 1, 2, none⟩ (.int .i64 0)).setCell ⟨w.heap.size + 1 + 1, 3, none⟩ (.int .i64 0)).setCell ⟨w.heap.size + 1 + 1, 4, none⟩ (.int .i64 0)).setCell ⟨w.heap.size + 1 + 1, 5, none⟩ (.int .i64 0)) (w.heap.size + 1 + 1) #[.int .i64 0, .int .i64 0, .int .i64 0, .int .i64 0, .int .i64 0, .int .i64 0] 32 := ((((((K2.out.set 0 (.int .i64 0)).set 1 (.int .i64 0)).set 2 (.int .i64 0)).set 3 (.int .i64 0)).set 4 (.int .i64 0)).set 5 (.int .i64 0))
          have hBw : Below w.heap.size w ((((((W.setCell ⟨w.heap.size + 1 + 1, 0, none⟩ (.int .i64 0)).setCell ⟨w.heap.size + 1 + 1, 1, none⟩ (.int .i64 0)).setCell ⟨w.heap.size + 1 + 1, 2, none⟩ (.int .i64 0)).setCell ⟨w.heap.size + 1 + 1, 3, none⟩ (.int .i64 0)).setCell ⟨w.heap.size + 1 + 1, 4, none⟩ (.int .i64 0)).setCell ⟨w.heap.size + 1 + 1, 5, none⟩ (.int .i64 0)) := ((((((HB.out.setCell (p := ⟨w.heap.size + 1 + 1, 0, none⟩) (by simp; omega) _).setCell (p := ⟨w.heap.size + 1 + 1, 1, none⟩) (by simp; omega) _).setCell (p := ⟨w.heap.size + 1 + 1, 2, none⟩) (by simp; omega) _).setCell (p := ⟨w.heap.size + 1 + 1, 3, none⟩) (by simp; omega) _).setCell (p := ⟨w.heap.size + 1 + 1, 4, none⟩) (by simp; omega) _).setCell (p := ⟨w.heap.size + 1 + 1, 5, none⟩) (by simp; omega) _)
          generalize ((((((W.setCell ⟨w.heap.size + 1 + 1, 0, none⟩ (.int .i64 0)).setCell ⟨w.heap.size + 1 + 1, 1, none⟩ (.int .i64 0)).setCell ⟨w.heap.size + 1 + 1, 2, none⟩ (.int .i64 0)).setCell ⟨w.heap.size + 1 + 1, 3, none⟩ (.int .i64 0)).setCell ⟨w.heap.size + 1 + 1, 4, none⟩ (.int .i64 0)).setCell ⟨w.heap.size + 1 + 1, 5, none⟩ (.int .i64 0)) = W2 at hJ hBw ⊢
          obtain ⟨e0, e1, e2, e3, e4, e5⟩ := res6_ret hJ
          refine bodyPost_ret (v := .tuple #[letV zeroL, .int .i64 100]) (by simp [results, Tryz.f27, go_sem, zeroL, e0, e1, e2, e3, e4, e5]) rfl ⟨by rw [(hN.out (.inr (.inr HW.out))).1, (hN.out (.inr (.inr HW.out))).2], hBw⟩
    · have HL := Lib.hid (hY.out hp.out).1
      have HE := Lib.hid (hY.out hp.out).2
      have D1 : Hid (Blk W.drew (w.heap.size + 1) #[.int .i64 r0, .int .i64 r1, .int .i64 r2] 22) := Lib.hid K1.out
      have D2 : Hid (Blk W.drew (w.heap.size + 1 + 1) #[.int .i64 0, .int .i64 0, .int .i64 0, .int .i64 0, .int .i64 0, .int .i64 0] 32) := Lib.hid K2.out
      have HBD : Hid (Below w.heap.size w W.drew) := Lib.hid HB.out.drew
      obtain ⟨q0, q1, q2⟩ := blk3_facts K1.out
      clear i0 i1 i2
      go_wp2
      go_region_with (first
        | (go_at_call 65; refine (say_any _ _ _ _).mono ?_; rintro e w1 ⟨rfl, hs1, hb1⟩; have HS1 := Lib.hid hs1; have HB1 := Lib.hid hb1; obtain ⟨p0, p1, p2⟩ := blk3_facts (D1.out.below hb1 D1.out.lt); obtain ⟨s0, s1, s2, s3, s4, s5, t0, t1, t2, t3, t4, t5⟩ := blk6_facts (D2.out.below hb1 D2.out.lt); clear hs1 hb1)
        | (go_at_call 66; refine (mask_any _ _ _ _ _).mono ?_; rintro e w2 ⟨rfl, hm2, hb2⟩; have HS2 := Lib.hid (HS1.out.below hb2); have HM2 := Lib.hid hm2; have HB2 := Lib.hid (bel_trans HB1.out hb2); obtain ⟨u0, u1, u2, u3, u4, u5, v0, v1, v2, v3, v4, v5⟩ := blk6_facts (D2.out.below HB2.out D2.out.lt); have gg : w.heap.size + 1 + 1 < w2.heap.size := Nat.lt_of_lt_of_le D2.out.lt HB2.out.size; clear hm2 hb2)
        | (go_at_call 31; refine (seal_call key n0 n1 n2 r0 r1 r2 _ _ L _ HL.out HS2.out HM2.out).mono ?_; rintro e w3 ⟨rfl, hb3⟩; have HB3 := Lib.hid (bel_trans HB2.out hb3); obtain ⟨x0, x1, x2, x3, x4, x5, y0, y1, y2, y3, y4, y5⟩ := blk6_facts (D2.out.below HB3.out D2.out.lt); clear hb3))
      all_goals
        go_wp2
        have hJ : Blk ((((((w3.setCell ⟨w.heap.size + 1 + 1, 0, none⟩ (.int .i64 L.1.1)).setCell ⟨w.heap.size + 1 + 1, 1, none⟩ (.int .i64 L.1.2)).setCell ⟨w.heap.size + 1 + 1, 2, none⟩ (.int .i64 L.2.1.1)).setCell ⟨w.heap.size + 1 + 1, 3, none⟩ (.int .i64 L.2.1.2)).setCell ⟨w.heap.size + 1 + 1, 4, none⟩ (.int .i64 L.2.2.1)).setCell ⟨w.heap.size + 1 + 1, 5, none⟩ (.int .i64 L.2.2.2)) (w.heap.size + 1 + 1) #[.int .i64 L.1.1, .int .i64 L.1.2, .int .i64 L.2.1.1, .int .i64 L.2.1.2, .int .i64 L.2.2.1, .int .i64 L.2.2.2] 32 := (((((((D2.out.below HB3.out D2.out.lt).set 0 (.int .i64 L.1.1)).set 1 (.int .i64 L.1.2)).set 2 (.int .i64 L.2.1.1)).set 3 (.int .i64 L.2.1.2)).set 4 (.int .i64 L.2.2.1)).set 5 (.int .i64 L.2.2.2))
        have hBw : Below w.heap.size w ((((((w3.setCell ⟨w.heap.size + 1 + 1, 0, none⟩ (.int .i64 L.1.1)).setCell ⟨w.heap.size + 1 + 1, 1, none⟩ (.int .i64 L.1.2)).setCell ⟨w.heap.size + 1 + 1, 2, none⟩ (.int .i64 L.2.1.1)).setCell ⟨w.heap.size + 1 + 1, 3, none⟩ (.int .i64 L.2.1.2)).setCell ⟨w.heap.size + 1 + 1, 4, none⟩ (.int .i64 L.2.2.1)).setCell ⟨w.heap.size + 1 + 1, 5, none⟩ (.int .i64 L.2.2.2)) := (((((((HBD.out.trans (HB3.out.mono (by show w.heap.size ≤ W.heap.size; exact HB.out.size))).setCell (p := ⟨w.heap.size + 1 + 1, 0, none⟩) (by simp; omega) _).setCell (p := ⟨w.heap.size + 1 + 1, 1, none⟩) (by simp; omega) _).setCell (p := ⟨w.heap.size + 1 + 1, 2, none⟩) (by simp; omega) _).setCell (p := ⟨w.heap.size + 1 + 1, 3, none⟩) (by simp; omega) _).setCell (p := ⟨w.heap.size + 1 + 1, 4, none⟩) (by simp; omega) _).setCell (p := ⟨w.heap.size + 1 + 1, 5, none⟩) (by simp; omega) _)
        generalize ((((((w3.setCell ⟨w.heap.size + 1 + 1, 0, none⟩ (.int .i64 L.1.1)).setCell ⟨w.heap.size + 1 + 1, 1, none⟩ (.int .i64 L.1.2)).setCell ⟨w.heap.size + 1 + 1, 2, none⟩ (.int .i64 L.2.1.1)).setCell ⟨w.heap.size + 1 + 1, 3, none⟩ (.int .i64 L.2.1.2)).setCell ⟨w.heap.size + 1 + 1, 4, none⟩ (.int .i64 L.2.2.1)).setCell ⟨w.heap.size + 1 + 1, 5, none⟩ (.int .i64 L.2.2.2)) = W2 at hJ hBw ⊢
        obtain ⟨e0, e1, e2, e3, e4, e5⟩ := res6_ret hJ
        refine bodyPost_ret (v := .tuple #[letV L, .int .i64 0]) (by simp [results, Tryz.f27, go_sem, e0, e1, e2, e3, e4, e5]) rfl ⟨by rw [HE.out], hBw⟩

theorem seal_any (key n0 n1 n2 r0 r1 r2 : Int) (w : World) :
    Calls Tryz.prog 27 #[.int .i64 key, .agg #[.int .i64 n0, .int .i64 n1, .int .i64 n2], .agg #[.int .i64 r0, .int .i64 r1, .int .i64 r2]] w
      fun e w' => e = .returned (.tuple #[letV (sealR key n0 n1 n2 r0 r1 r2), .int .i64 (sealE key n0 n1 n2)]) ∧ Below w.heap.size w w' := by
  cases hv : elB key with
  | false =>
    have e1 : sealR key n0 n1 n2 r0 r1 r2 = zeroL := by unfold sealR; rw [hv]; rfl
    have e2 : sealE key n0 n1 n2 = 90 := by unfold sealE; rw [hv]; rfl
    rw [e1, e2]; exact seal_no key n0 n1 n2 r0 r1 r2 w hv
  | true =>
    refine seal_yes key n0 n1 n2 r0 r1 r2 w hv _ _ ?_ ?_
    · rintro ⟨h0, h1, h2⟩
      unfold sealR sealE; rw [hv, h0, h1, h2]
      exact ⟨if_pos rfl, rfl⟩
    · intro h
      have hb : (wordB n0 && wordB n1 && wordB n2) = false := by rcases h with h | h | h <;> simp [h]
      unfold sealR sealE; rw [hv, hb]; exact ⟨rfl, rfl⟩
end Go.Proofs.YtpjobllfiimdkaaGreatDoor
