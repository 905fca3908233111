/- Arrays in memory, known whole; bytes; what 'turned to the right' yields. -/
import Derived.Test.YtllcgehfmkmcdaaDoorSha
import Derived.Test.YtllcgehfmkmcdaaDoorGroup
import Derived.Deep.MidRow
import Derived.Deep.QuietTactic
import Derived.BigRegion
import Derived.BigQuiet
import Derived.StillTailTactics
import Derived.Laws.AppendOwn
import Derived.RangeFuncRecord
import Derived.Outline
namespace Go.Proofs.YtllcgehfmkmcdaaDoor
open Go.RowKit
set_option linter.unusedVariables false

/-- a block of cells, known whole -/
def Blk (W : World) (b : Nat) (c : Array Value) (t : TypeId) : Prop := W.heap[b]? = some (.cells c t (0, 0))
theorem Blk.new (W : World) (c : Array Value) (t : TypeId) : Blk (W.alloc (.cells c t)) W.heap.size c t := World.alloc_heap_new W _
theorem Blk.lt {W : World} {b : Nat} {c : Array Value} {t : TypeId} (h : Blk W b c t) : b < W.heap.size := (Array.getElem?_eq_some_iff.1 h).1
theorem Blk.below {W W' : World} {n b : Nat} {c : Array Value} {t : TypeId} (h : Blk W b c t) (k : Below n W W') (hb : b < n) : Blk W' b c t := (k.block b hb).trans h
theorem Blk.alloc {W : World} {b : Nat} {c : Array Value} {t : TypeId} (h : Blk W b c t) (o : Obj) : Blk (W.alloc o) b c t := h.below (bel_alloc1 W o) h.lt
theorem Blk.cell {W : World} {b : Nat} {c : Array Value} {t : TypeId} (h : Blk W b c t) (o : Nat) : W.cell? ⟨b, o, none⟩ = c[o]? := by
  simp [World.cell?, show W.heap[b]? = _ from h]
theorem Blk.frozen {W : World} {b : Nat} {c : Array Value} {t : TypeId} (h : Blk W b c t) (o : Nat) : W.frozen? ⟨b, o, none⟩ = false := by
  simp [World.frozen?, show W.heap[b]? = _ from h]
theorem Blk.set {W : World} {b : Nat} {c : Array Value} {t : TypeId} (h : Blk W b c t) (o : Nat) (v : Value) : Blk (W.setCell ⟨b, o, none⟩ v) b (c.setIfInBounds o v) t := by
  obtain ⟨hlt, hk⟩ := Array.getElem?_eq_some_iff.1 h
  show (W.heap.modify b _)[b]? = _
  rw [Array.getElem?_eq_getElem (by rw [Array.size_modify]; exact hlt), Array.getElem_modify_self, hk]
  rfl
theorem Blk.other {W : World} {b b' : Nat} {c : Array Value} {t : TypeId} (h : Blk W b c t) (o : Nat) (v : Value) (hne : b ≠ b') : Blk (W.setCell ⟨b', o, none⟩ v) b c t :=
  (Below.heap_setCell W ⟨b', o, none⟩ v b hne).trans h
theorem Blk.drew {W : World} {b : Nat} {c : Array Value} {t : TypeId} (h : Blk W b c t) : Blk W.drew b c t := h
theorem setCells_cons (W : World) (b o : Nat) (v : Value) (r : List Value) : W.setCells b o (v :: r) = (W.setCell ⟨b, o, none⟩ v).setCells b (o + 1) r := rfl
theorem Blk.others {b b' : Nat} {c : Array Value} {t : TypeId} (hne : b ≠ b') : ∀ (vs : List Value) (o : Nat) {W : World}, Blk W b c t → Blk (W.setCells b' o vs) b c t
  | [], _, _, h => h
  | v :: r, o, _, h => Blk.others hne r (o + 1) (h.other o v hne)
theorem Blk.setAll {b : Nat} {t : TypeId} : ∀ (vs pre : List Value) (c : List Value) {W : World}, Blk W b (pre ++ c).toArray t → vs.length = c.length → Blk (W.setCells b pre.length vs) b (pre ++ vs).toArray t
  | [], pre, [], _, h, _ => h
  | v :: r, pre, d :: c, W, h, hl => by
    rw [setCells_cons]
    have h1 : Blk (W.setCell ⟨b, pre.length, none⟩ v) b ((pre ++ [v]) ++ c).toArray t := by
      have := h.set pre.length v
      simpa using this
    have := Blk.setAll r (pre ++ [v]) c h1 (by simpa using hl)
    simpa using this
theorem Blk.fill {W : World} {b : Nat} {t : TypeId} {c vs : List Value} (h : Blk W b c.toArray t) (hl : vs.length = c.length) : Blk (W.setCells b 0 vs) b vs.toArray t := by
  have := Blk.setAll vs [] c (by simpa using h) hl
  simpa using this
theorem Blk.range {W : World} {b : Nat} {t : TypeId} {c : List Value} (h : Blk W b c.toArray t) : W.rangeAt b 0 c := fun j v hv => by
  rw [Nat.zero_add, h.cell j]; simpa using hv
theorem Blk.there {W : World} {b : Nat} {t : TypeId} {c : List Value} (h : Blk W b c.toArray t) : W.there b 0 c.length := fun j hj => by
  rw [Nat.zero_add]
  exact ⟨by rw [h.cell j]; simp [hj], h.frozen j⟩
theorem setCells_below {n b : Nat} (hb : n ≤ b) : ∀ (vs : List Value) (o : Nat) {w W : World}, Below n w W → Below n w (W.setCells b o vs)
  | [], _, _, _, h => h
  | v :: r, o, _, _, h => setCells_below hb r (o + 1) (h.setCell (p := ⟨b, o, none⟩) hb v)
theorem size_setCells (b : Nat) : ∀ (vs : List Value) (o : Nat) (W : World), (W.setCells b o vs).heap.size = W.heap.size
  | [], _, _ => rfl
  | v :: r, o, W => by rw [setCells_cons, size_setCells b r (o + 1)]; simp

theorem bits_or_comm (x y : Int) : bits .or .u32 x y = bits .or .u32 y x := by simp [bits, BitVec.or_comm]
theorem results_cell_one {P : Program} {fn : Func} {p : Tmp} {ty : TypeId} (h : fn.results = #[.cell p ty]) (tmps : Array Value) (w : World) :
    (results fn tmps).run P w = ((asAddr (tmps.getD p undef)).run P w).andThen fun a w₁ => (loadVar ty a).run P w₁ := by
  simp only [results, h]
  simp [Sem.run_bind, Result.andThen]
theorem results_cell1 {P : Program} {fn : Func} {p : Tmp} {ty : TypeId} {a : Addr} {v : Value} {w : World} (h : fn.results = #[.cell p ty]) (tmps : Array Value) (hp : tmps.getD p undef = .pointer (some a))
    (hl : (loadVar ty a).run P w = .ok v w) : (results fn tmps).run P w = .ok v w := by
  rw [results_cell_one h, hp]
  simp [asAddr, hl]
theorem bel_dn {B : Nat} {a w : World} (h : Below B a w) (n : Nat) : Below B a (w.drewN n) := ⟨h.os, h.tape, h.output, h.size, h.block⟩
def wv (zs : List Int) : List Value := zs.map (Value.int .u32)
def bv (zs : List Int) : List Value := zs.map (Value.int .u8)
theorem wv_get (zs : List Int) (j : Nat) (h : j < zs.length) : (wv zs).toArray[j]? = some (.int .u32 (zs.getD j 0)) := by simp [wv, List.getD, h]
theorem bv_get (zs : List Int) (j : Nat) (h : j < zs.length) : (bv zs).toArray[j]? = some (.int .u8 (zs.getD j 0)) := by simp [bv, List.getD, h]
theorem wv_set (zs : List Int) (j : Nat) (x : Int) : (wv zs).toArray.setIfInBounds j (.int .u32 x) = (wv (zs.set j x)).toArray := by simp [wv]
theorem bv_set (zs : List Int) (j : Nat) (x : Int) : (bv zs).toArray.setIfInBounds j (.int .u8 x) = (bv (zs.set j x)).toArray := by simp [bv]
theorem wv_len (zs : List Int) : (wv zs).length = zs.length := by simp [wv]
theorem bv_len (zs : List Int) : (bv zs).length = zs.length := by simp [bv]
theorem wv_one (zs : List Int) : ∀ v ∈ wv zs, v.oneCell' = true := by
  intro v hv; simp only [wv, List.mem_map] at hv; obtain ⟨z, _, rfl⟩ := hv; rfl
theorem bv_one (zs : List Int) : ∀ v ∈ bv zs, v.oneCell' = true := by
  intro v hv; simp only [bv, List.mem_map] at hv; obtain ⟨z, _, rfl⟩ := hv; rfl

set_option maxHeartbeats 400000 in
theorem ror2_c (x : Int) (w : World) : Calls Tryd.prog 51 #[.int .u32 x, .int .i64 2] w fun e w' => e = .returned (.int .u32 (rr x 2)) ∧ w' = w := by
  have k : bits .and .u64 (IntKind.u64.wrap (-2)) 31 = 30 := by decide
  go_enter Tryd.func51, Tryd.ntmps51
  go_wp2
  go_ret
  exact ⟨by rw [bits_or_comm]; rfl, rfl⟩
set_option maxHeartbeats 400000 in
theorem ror6_c (x : Int) (w : World) : Calls Tryd.prog 51 #[.int .u32 x, .int .i64 6] w fun e w' => e = .returned (.int .u32 (rr x 6)) ∧ w' = w := by
  have k : bits .and .u64 (IntKind.u64.wrap (-6)) 31 = 26 := by decide
  go_enter Tryd.func51, Tryd.ntmps51
  go_wp2
  go_ret
  exact ⟨by rw [bits_or_comm]; rfl, rfl⟩
set_option maxHeartbeats 400000 in
theorem ror7_c (x : Int) (w : World) : Calls Tryd.prog 51 #[.int .u32 x, .int .i64 7] w fun e w' => e = .returned (.int .u32 (rr x 7)) ∧ w' = w := by
  have k : bits .and .u64 (IntKind.u64.wrap (-7)) 31 = 25 := by decide
  go_enter Tryd.func51, Tryd.ntmps51
  go_wp2
  go_ret
  exact ⟨by rw [bits_or_comm]; rfl, rfl⟩
set_option maxHeartbeats 400000 in
theorem ror11_c (x : Int) (w : World) : Calls Tryd.prog 51 #[.int .u32 x, .int .i64 11] w fun e w' => e = .returned (.int .u32 (rr x 11)) ∧ w' = w := by
  have k : bits .and .u64 (IntKind.u64.wrap (-11)) 31 = 21 := by decide
  go_enter Tryd.func51, Tryd.ntmps51
  go_wp2
  go_ret
  exact ⟨by rw [bits_or_comm]; rfl, rfl⟩
set_option maxHeartbeats 400000 in
theorem ror13_c (x : Int) (w : World) : Calls Tryd.prog 51 #[.int .u32 x, .int .i64 13] w fun e w' => e = .returned (.int .u32 (rr x 13)) ∧ w' = w := by
  have k : bits .and .u64 (IntKind.u64.wrap (-13)) 31 = 19 := by decide
  go_enter Tryd.func51, Tryd.ntmps51
  go_wp2
  go_ret
  exact ⟨by rw [bits_or_comm]; rfl, rfl⟩
set_option maxHeartbeats 400000 in
theorem ror17_c (x : Int) (w : World) : Calls Tryd.prog 51 #[.int .u32 x, .int .i64 17] w fun e w' => e = .returned (.int .u32 (rr x 17)) ∧ w' = w := by
  have k : bits .and .u64 (IntKind.u64.wrap (-17)) 31 = 15 := by decide
  go_enter Tryd.func51, Tryd.ntmps51
  go_wp2
  go_ret
  exact ⟨by rw [bits_or_comm]; rfl, rfl⟩
set_option maxHeartbeats 400000 in
theorem ror18_c (x : Int) (w : World) : Calls Tryd.prog 51 #[.int .u32 x, .int .i64 18] w fun e w' => e = .returned (.int .u32 (rr x 18)) ∧ w' = w := by
  have k : bits .and .u64 (IntKind.u64.wrap (-18)) 31 = 14 := by decide
  go_enter Tryd.func51, Tryd.ntmps51
  go_wp2
  go_ret
  exact ⟨by rw [bits_or_comm]; rfl, rfl⟩
set_option maxHeartbeats 400000 in
theorem ror19_c (x : Int) (w : World) : Calls Tryd.prog 51 #[.int .u32 x, .int .i64 19] w fun e w' => e = .returned (.int .u32 (rr x 19)) ∧ w' = w := by
  have k : bits .and .u64 (IntKind.u64.wrap (-19)) 31 = 13 := by decide
  go_enter Tryd.func51, Tryd.ntmps51
  go_wp2
  go_ret
  exact ⟨by rw [bits_or_comm]; rfl, rfl⟩
set_option maxHeartbeats 400000 in
theorem ror22_c (x : Int) (w : World) : Calls Tryd.prog 51 #[.int .u32 x, .int .i64 22] w fun e w' => e = .returned (.int .u32 (rr x 22)) ∧ w' = w := by
  have k : bits .and .u64 (IntKind.u64.wrap (-22)) 31 = 10 := by decide
  go_enter Tryd.func51, Tryd.ntmps51
  go_wp2
  go_ret
  exact ⟨by rw [bits_or_comm]; rfl, rfl⟩
set_option maxHeartbeats 400000 in
theorem ror25_c (x : Int) (w : World) : Calls Tryd.prog 51 #[.int .u32 x, .int .i64 25] w fun e w' => e = .returned (.int .u32 (rr x 25)) ∧ w' = w := by
  have k : bits .and .u64 (IntKind.u64.wrap (-25)) 31 = 7 := by decide
  go_enter Tryd.func51, Tryd.ntmps51
  go_wp2
  go_ret
  exact ⟨by rw [bits_or_comm]; rfl, rfl⟩
end Go.Proofs.YtllcgehfmkmcdaaDoor
