/- Chains: the law's examples in plain numbers. -/
import Derived.Test.YtllcgehfmkmcdaaDoorChnAdd
import Derived.Test.YtllcgehfmkmcdaaDoorChnPart
namespace Go.Proofs.YtllcgehfmkmcdaaDoor
open Go.RowKit
set_option linter.unusedVariables false
set_option linter.unusedSimpArgs false

/-- the first link of node 3, with the data x -/
def lA (d0 : List Int) (q : Option Addr) (r : Nat) : Lk := ⟨3, 0, d0, q, 1, r, [120]⟩
/-- a second one -/
def lB (d1 : List Int) (q : Option Addr) (r : Nat) (z : Int) : Lk := ⟨3, 1, d1, q, 1, r, [z]⟩
theorem chk0 : IsChk [] 0 := .inl ⟨fun i hi => absurd hi (by simp), rfl⟩
theorem linA {d0 : List Int} {q : Option Addr} {r : Nat} {l : List Lk} (h0 : IsHead [] d0) : linB (lA d0 q r :: l) 0 = true := by
  unfold linB fldB prvB
  simp only [List.getD_cons_zero, List.take_zero, h0.of, lA]
  simp
theorem chkA {d0 : List Int} {q : Option Addr} {r : Nat} (h0 : IsHead [] d0) : IsChk [lA d0 q r] 0 := by
  refine .inl ⟨fun i hi => ?_, rfl⟩
  obtain rfl : i = 0 := by have : i < 1 := hi; omega
  exact linA h0
theorem chkB {d0 d1 : List Int} {q q2 : Option Addr} {r r2 : Nat} {z : Int} (h0 : IsHead [] d0) (h1 : IsHead [lA d0 q r] d1) : IsChk [lA d0 q r, lB d1 q2 r2 z] 0 := by
  refine .inl ⟨fun i hi => ?_, rfl⟩
  have hi2 : i < 2 := hi
  rcases (by omega : i = 0 ∨ i = 1) with rfl | rfl
  · exact linA h0
  · unfold linB fldB prvB
    simp only [List.getD_cons_zero, List.getD_cons_succ, List.take_succ_cons, List.take_zero, h1.of, lA, lB]
    have := h1.of
    unfold lA at this
    rw [this]
    simp
theorem chkOne (zs : List Int) : IsChk [⟨0, 1, zs, none, 0, 0, []⟩] 80 := .inr ⟨⟨0, by simp, by unfold linB fldB; simp⟩, rfl⟩
theorem chkTl {d1 : List Int} {q : Option Addr} {r : Nat} {z : Int} : IsChk [lB d1 q r z] 80 := .inr ⟨⟨0, by simp, by unfold linB fldB lB; simp⟩, rfl⟩
theorem samB_refl (x : Lk) : samB x x = true := by unfold samB; simp
theorem fstBC {x : Lk} {d1 : List Int} {q2 q3 : Option Addr} {r2 r3 : Nat} : IsFst [x, lB d1 q2 r2 121] [x, lB d1 q3 r3 122] (min 2 2) 1 true := by
  have hne : samB (lB d1 q2 r2 121) (lB d1 q3 r3 122) = false := by unfold samB lB; simp
  refine ⟨fun h => ?_, fun k hk ha hf => ?_⟩
  · have := h 1 (by decide)
    simp only [List.getD_cons_zero, List.getD_cons_succ] at this
    rw [hne] at this; cases this
  · have hk2 : k < 2 := hk
    rcases (by omega : k = 0 ∨ k = 1) with rfl | rfl
    · simp only [List.getD_cons_zero] at hf
      rw [samB_refl] at hf; cases hf
    · exact ⟨rfl, rfl⟩
theorem fstAB {x y : Lk} : IsFst [x] [x, y] (min 1 2) 0 false := by
  refine ⟨fun _ => ⟨rfl, rfl⟩, fun k hk ha hf => ?_⟩
  obtain rfl : k = 0 := by have : k < 1 := hk; omega
  simp only [List.getD_cons_zero] at hf
  rw [samB_refl] at hf; cases hf
theorem fst0 {l : List Lk} : IsFst [] l (min 0 1) 0 false := ⟨fun _ => ⟨rfl, rfl⟩, fun k hk => absurd hk (by simp)⟩
theorem sm0 : Small [] := ⟨by simp, by simp⟩
theorem smA {d0 : List Int} {q : Option Addr} {r : Nat} : Small [lA d0 q r] := ⟨by simp, by simp [lA]⟩
theorem smB {d0 d1 : List Int} {q q2 : Option Addr} {r r2 : Nat} {z : Int} : Small [lA d0 q r, lB d1 q2 r2 z] := ⟨by simp, by simp [lA, lB]⟩
theorem smT {d1 : List Int} {q2 : Option Addr} {r2 : Nat} {z : Int} : Small [lB d1 q2 r2 z] := ⟨by simp, by simp [lB]⟩
theorem smO (zs : List Int) : Small [⟨0, 1, zs, none, 0, 0, []⟩] := ⟨by simp, by simp⟩
theorem headA {d0 d1 : List Int} {q : Option Addr} {r : Nat} (h : IsHead [lA d0 q r] d1) : IsTg tLink (lkT (lA d0 q r)) d1 := h.tg
theorem txtA {d0 : List Int} {q : Option Addr} {r : Nat} (h : d0.length = 32) : lkT (lA d0 q r) = [3, 4, 1, 6, 1, 0, 2, 32] ++ d0 ++ [2, 1, 120] := by
  unfold lkT lkA lA encL
  simp only [List.map_cons, List.map_nil, Atom.enc, List.flatten_cons, List.flatten_nil, List.length_cons, List.length_nil, h]
  rw [show zig 3 = 6 from rfl, show zig 0 = 0 from rfl]
  rw [numL_lt (by decide), numL_lt (by decide), numL_lt (by decide), numL_lt (by decide), numL_lt (by decide)]
  simp
theorem lksNil (w : World) : LksV w none 0 0 [] := ⟨rfl, by omega, by omega, fun _ => ⟨rfl, rfl⟩, by simp, .inl rfl⟩
theorem src1 {w : World} {b : Nat} {z : Int} {t : TypeId} (h : Blk w b #[.int .u8 z] t) (hb : b < w.heap.size) : SrcW w (some ⟨b, 0, none⟩) 1 1 [z] := .inl ⟨rfl, .inr ⟨b, 0, rfl, hb, fun j hj => by
  have : j < 1 := hj
  obtain rfl : j = 0 := by omega
  exact h.cell 0⟩⟩
theorem srcNil (w : World) : SrcW w none 0 0 [] := .inl ⟨rfl, .inl ⟨rfl, rfl, rfl⟩⟩
theorem LksV.tail {w : World} {g : Nat} {c : Nat} {x y : Lk} (h : LksV w (some ⟨g, 0, none⟩) 2 c [x, y]) : LksV w (some ⟨g, 35, none⟩) 1 (c - 1) [y] := by
  have hc := h.nc
  have hcm := h.cm
  refine ⟨rfl, by omega, by omega, (fun e => by cases e), fun z hz => h.ok z (List.mem_cons_of_mem _ hz), ?_⟩
  rcases h.row with h0 | ⟨b, off, e, hb, ha⟩
  · cases h0
  · cases e
    refine .inr ⟨g, 35, rfl, hb, fun j hj => ?_⟩
    have : j < 1 := hj
    obtain rfl : j = 0 := by omega
    have := ha 1 (by simp)
    simpa using this
theorem lksOne {w : World} {b : Nat} {x : Lk} (h : KBlk w b x) (hx : LkOk w x) : LksV w (some ⟨b, 0, none⟩) 1 1 [x] := by
  refine ⟨rfl, by omega, by omega, (fun e => by cases e), fun z hz => by rw [List.mem_singleton.1 hz]; exact hx, .inr ⟨b, 0, rfl, h.lt, fun j hj => ?_⟩⟩
  have : j < 1 := hj
  obtain rfl : j = 0 := by omega
  simpa using h.1.range
end Go.Proofs.YtllcgehfmkmcdaaDoor
