/- The encoding of values, in plain numbers. Numerals written: codec.writeNumeral. The forms of values: codec.forms. Codes known, and what is clean. Whether atoms are well formed: codec.wellFormed. Lists of atoms as they lie in memory. Depth, well formed lists of atoms, Check. A text written: codec.writeText. Integers written: codec.unsigned, writeInt. A value written: codec.writeValue, for integers and texts. A list of atoms written: codec.writeList. bits.Len64, where digest.split is not reached. How long an encoding is, bounded: codec.sizeNumeral. How long the encoding of a text is, bounded: codec.sizeText. How long the encoding of a value is, bounded: codec.sizeValue, sizeList. A list of atoms encoded: codec.Encode. -/
import Derived.Test.YtllcgehfmkmcdaaDoorLawKit
import Derived.Test.YtllcgehfmkmcdaaDoorDigPad
import Derived.Test.YtllcgehfmkmcdaaDoorDig0
import Derived.Deep.RegionHeld3
import Derived.IntWalk
import Derived.Test.YtllcgehfmkmcdaaDoorRegU
import Derived.Test.YtllcgehfmkmcdaaDoorDigTag
import Derived.Lib.AppendStr
import Derived.Laws.Bits64
import Derived.Laws.MathBits
import Derived.OwnWalk
namespace Go.Proofs.YtllcgehfmkmcdaaDoor
set_option linter.unusedVariables false

/-- the bytes of a number: seven bits each, the lowest first -/
def numL (u : Nat) : List Int := if u < 128 then [(u : Int)] else ((u % 128 + 128 : Nat) : Int) :: numL (u / 128)
termination_by u
decreasing_by omega
theorem numL_lt {u : Nat} (h : u < 128) : numL u = [(u : Int)] := by rw [numL, if_pos h]
theorem numL_ge {u : Nat} (h : ¬ u < 128) : numL u = ((u % 128 + 128 : Nat) : Int) :: numL (u / 128) := by rw [numL, if_neg h]
theorem numL_rng (u : Nat) : ∀ z ∈ numL u, 0 ≤ z ∧ z ≤ 255 := by
  induction u using Nat.strongRecOn with
  | _ u ih =>
    by_cases h : u < 128
    · rw [numL_lt h]
      intro z hz
      simp at hz
      omega
    · rw [numL_ge h]
      intro z hz
      rcases List.mem_cons.1 hz with rfl | hz
      · omega
      · exact ih (u / 128) (by omega) z hz
theorem numL_pos (u : Nat) : 0 < (numL u).length := by
  by_cases h : u < 128
  · rw [numL_lt h]; simp
  · rw [numL_ge h]; simp
theorem numL_len (u : Nat) : ∀ k, u < 128 ^ k → 0 < k → (numL u).length ≤ k := by
  induction u using Nat.strongRecOn with
  | _ u ih =>
    intro k hk h0
    by_cases h : u < 128
    · rw [numL_lt h]; simp; omega
    · rw [numL_ge h]
      cases k with
      | zero => omega
      | succ k =>
        rw [Nat.pow_succ] at hk
        have hk0 : 0 < k := by
          rcases Nat.eq_zero_or_pos k with rfl | h1
          · simp at hk; omega
          · exact h1
        have := ih (u / 128) (by omega) k (by omega) hk0
        simp; omega
/-- an integer without its sign -/
def zig (n : Int) : Nat := if 0 ≤ n then (2 * n).toNat else (-2 * n - 1).toNat
/-- the range of an int -/
def inR (n : Int) : Prop := -9223372036854775808 ≤ n ∧ n ≤ 9223372036854775807
theorem zig_lt {n : Int} (h : inR n) : zig n < 18446744073709551616 := by
  obtain ⟨h1, h2⟩ := h
  unfold zig
  split <;> omega
inductive Atom
  | int (n : Int)
  | text (s : List Int)
def Atom.enc : Atom → List Int
  | .int n => 1 :: numL (zig n)
  | .text s => 2 :: (numL s.length ++ s)
def encL (l : List Atom) : List Int := 3 :: (numL l.length ++ (l.map Atom.enc).flatten)
end Go.Proofs.YtllcgehfmkmcdaaDoor
namespace Go.Proofs.YtllcgehfmkmcdaaDoor
open Go.RowKit
set_option linter.unusedVariables false
set_option linter.unusedSimpArgs false

/-- blocks that are not of bytes stay as they are, and all that lies below B -/
def Kp (B : Nat) (w w' : World) : Prop := Below B w w' ∧ ∀ i c t, t ≠ 5 → Blk w i c t → Blk w' i c t
theorem Kp.refl {B : Nat} {w : World} : Kp B w w := ⟨Below.refl _ _, fun _ _ _ _ h => h⟩
theorem Kp.trans {B : Nat} {w w1 w2 : World} (h : Kp B w w1) (k : Kp B w1 w2) : Kp B w w2 := ⟨h.1.trans k.1, fun i c t n b => k.2 i c t n (h.2 i c t n b)⟩
theorem Kp.alloc {B : Nat} {w w1 : World} (h : Kp B w w1) (hB : B ≤ w1.heap.size) (o : Obj) : Kp B w (w1.alloc o) := ⟨h.1.alloc hB o, fun i c t n b => (h.2 i c t n b).alloc o⟩
theorem Kp.grown {B : Nat} {w w1 w2 : World} {v : Value} {zs : List Int} (h : Kp B w w1) (ho : Own8 w1 B v zs) (hg : w1.grownBy w2 v.ownBlock) (hB : B ≤ w1.heap.size) : Kp B w w2 := by
  refine ⟨bel_grown8 h.1 ho hg hB, fun i c t n b => ?_⟩
  have b1 := h.2 i c t n b
  have : v.ownBlock ≠ some i := by
    intro e
    rcases ho.2 with ⟨rfl, _⟩ | ⟨g, cap, cur, rfl, _, hc, _⟩
    · simp [Value.ownBlock] at e
    · simp only [Value.ownBlock, Option.some.injEq] at e
      subst e
      have := hc.symm.trans b1
      simp only [Option.some.injEq, Obj.cells.injEq] at this
      exact n this.2.1.symm
  exact (hg.block i b1.lt (fun e => this e.symm)).trans b1
theorem oneB (w : World) (x : Int) : BytesAt (w.alloc (.cells #[.int .u8 x] 5)) w.heap.size 0 [x] := fun j hj => by
  have : j = 0 := by simpa using hj
  subst this
  exact (Blk.new w #[.int .u8 x] 5).cell 0

theorem bor_all : ((List.range 256).all fun x => bits BinOp.or IntKind.u8 (x : Int) 128 == (x : Int) % 128 + 128) = true := by kernel_rfl
theorem bor128 (q : Nat) : bits BinOp.or IntKind.u8 ((q : Int) % 256) 128 = ((q % 128 + 128 : Nat) : Int) := by
  have h := List.all_eq_true.1 bor_all (q % 256) (List.mem_range.2 (by omega))
  have h2 := eq_of_beq h
  have e : ((q % 256 : Nat) : Int) = (q : Int) % 256 := by omega
  rw [← e, h2]; omega
set_option maxRecDepth 100000 in
set_option maxHeartbeats 2000000 in
theorem writeNumeral_own (u B : Nat) (v : Value) (xs : List Int) (w : World) (ho : Hid (Own8 w B v xs)) (hu : u < 18446744073709551616) (hx : Hid (xs.length + 20 ≤ 2000000000)) (hB : B ≤ w.heap.size) :
    Calls Tryd.prog 78 #[v, .int .u64 u] w fun e w' => ∃ v', e = .returned v' ∧ Own8 w' B v' (xs ++ numL u) ∧ Kp B w w' := by
  go_enter Tryd.func78, Tryd.ntmps78
  go_wp2_with fail
  go_loopw [0, 1] (fun x y wr => ∃ (q : Nat) (v : Value) (ys : List Int), v = x ∧ y = .int .u64 q ∧ q ≤ u ∧ Hid (Own8 wr B v ys) ∧ Hid (ys ++ numL q = xs ++ numL u) ∧ Hid (Kp B w wr)) (fun _ y _ => (intOf y).toNat)
  case atStart => exact ⟨u, v, xs, rfl, rfl, by omega, ho, Lib.hid rfl, Lib.hid Kp.refl⟩
  case round =>
    obtain ⟨q, v1, ys, rfl, rfl, hq, HO, HY, HK⟩ := hrel
    by_cases hlt : 128 ≤ q
    · have hql : ys.length + (numL q).length = xs.length + (numL u).length := by have := congrArg List.length HY.out; simpa using this
      go_wp2_with (at_builtin; refine app8 rfl (.tmp 7) (.tmp 11) rfl B v1 ys rfl (own8_alloc HO.out _) (some ⟨wr.heap.size, 0, none⟩) 1 1 [bits BinOp.or IntKind.u8 ((q : Int) % 256) 128] rfl ?c1 ?c2 ?c3 ?_)
      case c1 => exact ⟨rfl, .inr ⟨_, _, rfl, by simp, oneB wr _⟩⟩
      case c2 => have h1 := hx.out; have h2 := numL_pos q; have h3 := numL_len u 10 (by simp; omega) (by omega); simp; omega
      case c3 => have := HK.out.1.size; simp; omega
      intro v2 w3 ho hg
      have HK3 := Lib.hid ((HK.out.alloc (Nat.le_trans hB HK.out.1.size) _).grown (own8_alloc HO.out _) hg (by have := HK.out.1.size; simp; omega))
      have HO3 := Lib.hid ho
      clear hg ho
      go_wp2_with fail
      refine ⟨⟨q / 128, v2, _, rfl, by simp, by omega, HO3, Lib.hid ?_, HK3⟩, ?_⟩
      · rw [bor128, List.append_assoc, ← HY.out, numL_ge (u := q) (by omega)]; rfl
      · simp only [intOf]; omega
    · go_wp2_with (at_builtin; refine app8 rfl (.tmp 15) (.tmp 18) rfl B v1 ys rfl (own8_alloc HO.out _) (some ⟨wr.heap.size, 0, none⟩) 1 1 [(q : Int)] rfl ?c1 ?c2 ?c3 ?_)
      case c1 => exact ⟨rfl, .inr ⟨_, _, rfl, by simp, oneB wr _⟩⟩
      case c2 =>
        have h1 := hx.out; have h3 := numL_len u 10 (by simp; omega) (by omega); have h2 := numL_pos q
        have hql : ys.length + (numL q).length = xs.length + (numL u).length := by have := congrArg List.length HY.out; simpa using this
        simp; omega
      case c3 => have := HK.out.1.size; simp; omega
      intro v2 w3 ho hg
      have HK3 := Lib.hid ((HK.out.alloc (Nat.le_trans hB HK.out.1.size) _).grown (own8_alloc HO.out _) hg (by have := HK.out.1.size; simp; omega))
      have HO3 := Lib.hid ho
      clear hg ho
      go_wp2_with fail
      go_ret
      refine ⟨v2, rfl, ?_, HK3.out⟩
      rw [← HY.out, numL_lt (u := q) (by omega)]
      exact HO3.out
end Go.Proofs.YtllcgehfmkmcdaaDoor
namespace Go.Proofs.YtllcgehfmkmcdaaDoor
open Go.RowKit
set_option linter.unusedVariables false
def formsL : List Value := [.nilFunc, .nilFunc, .nilFunc, .nilFunc,
  .func (.func 66) #[] #[], .func (.func 67) #[] #[], .func (.func 68) #[] #[], .func (.func 69) #[] #[],
  .func (.func 70) #[] #[], .func (.func 71) #[] #[], .func (.func 72) #[] #[], .func (.func 73) #[] #[],
  .func (.func 74) #[] #[], .func (.func 75) #[] #[], .func (.func 76) #[] #[], .func (.func 77) #[] #[]]
theorem formsQ1 : (Tryd.prog.info? 87).map (·.size) = some formsL.toArray.size := by kernel_rfl
theorem formsQ2 : formsL.toArray.all (·.oneCell') = true := all_oneCell_toArray (List.all_eq_true.1 (rfl : formsL.all (·.oneCell') = true))
theorem formsZ (w : World) : Blk (w.alloc (.cells #[.nilFunc, .nilFunc, .nilFunc, .nilFunc, .nilFunc, .nilFunc, .nilFunc, .nilFunc, .nilFunc, .nilFunc, .nilFunc, .nilFunc, .nilFunc, .nilFunc, .nilFunc, .nilFunc] 87)) w.heap.size (List.replicate 16 Value.nilFunc).toArray 87 := Blk.new w _ _
set_option maxRecDepth 100000 in
set_option maxHeartbeats 2000000 in
theorem forms_any (w : World) : Calls Tryd.prog 56 #[] w fun e w' => e = .returned (.agg formsL.toArray) ∧ Below w.heap.size w w' := by
  obtain ⟨F, q1, q2, q3, q4, q5, q6⟩ : ∃ F : List Value, (Tryd.prog.info? 87).map (·.size) = some F.toArray.size ∧ F.toArray.all (·.oneCell') = true ∧ (w.alloc (.cells #[.nilFunc, .nilFunc, .nilFunc, .nilFunc, .nilFunc, .nilFunc, .nilFunc, .nilFunc, .nilFunc, .nilFunc, .nilFunc, .nilFunc, .nilFunc, .nilFunc, .nilFunc, .nilFunc] 87)).there w.heap.size 0 F.toArray.size ∧ Hid (Value.agg formsL.toArray = Value.agg F.toArray) ∧ Hid (Blk ((w.alloc (.cells #[.nilFunc, .nilFunc, .nilFunc, .nilFunc, .nilFunc, .nilFunc, .nilFunc, .nilFunc, .nilFunc, .nilFunc, .nilFunc, .nilFunc, .nilFunc, .nilFunc, .nilFunc, .nilFunc] 87)).setCells w.heap.size 0 F.toArray.toList) w.heap.size F.toArray 87) ∧ Hid ((Tryd.prog.info? 87).map (·.size) = some F.length) :=
    ⟨formsL, formsQ1, formsQ2, (formsZ w).there, Lib.hid rfl, Lib.hid ((formsZ w).fill rfl), Lib.hid formsQ1⟩
  rw [q4.out]
  go_enter Tryd.func56, Tryd.ntmps56
  go_wp2_with (refine wpList_store_mid rfl 87 (.tmp 0) (.tmp 4) rfl w.heap.size 0 F.toArray rfl q4.out q3 q1 q2 ?_)
  refine bodyPost_ret (v := .agg F.toArray) (results_cell1 (a := ⟨w.heap.size, 0, none⟩) rfl _ rfl (run_loadVar_mid _ w.heap.size 0 _ F _ q5.out.range Tryd.underlying87 rfl q6.out)) rfl ⟨rfl, setCells_below (Nat.le_refl _) _ _ (bel_alloc1 w _)⟩
end Go.Proofs.YtllcgehfmkmcdaaDoor
namespace Go.Proofs.YtllcgehfmkmcdaaDoor
open Go.RowKit
set_option linter.unusedVariables false
set_option linter.unusedSimpArgs false

set_option maxRecDepth 100000 in
set_option maxHeartbeats 2000000 in
theorem known_yes (k : Int) (w : World) (h0 : 1 ≤ k) (h1 : k ≤ 3) : Calls Tryd.prog 65 #[.int .i64 k] w fun e w' => e = .returned (.bool true) ∧ w' = w := by
  go_enter Tryd.func65, Tryd.ntmps65
  go_wp2_with fail
  go_ret
  exact ⟨rfl, rfl⟩
set_option maxRecDepth 100000 in
set_option maxHeartbeats 2000000 in
theorem cleanInt_any (k n : Int) (p : Option Addr) (cap : Nat) (w : World) : Calls Tryd.prog 66 #[.agg #[.int .i64 k, .int .i64 n, .string ⟨#[]⟩, .slice p 0 cap]] w fun e w' => e = .returned (.bool true) ∧ Below w.heap.size w w' := by
  go_enter Tryd.func66, Tryd.ntmps66
  go_wp2_with fail
  go_ret
  exact ⟨rfl, bel_alloc1 w _⟩
set_option maxRecDepth 100000 in
set_option maxHeartbeats 2000000 in
theorem cleanText_any (k : Int) (s : ByteArray) (p : Option Addr) (cap : Nat) (w : World) : Calls Tryd.prog 70 #[.agg #[.int .i64 k, .int .i64 0, .string s, .slice p 0 cap]] w fun e w' => e = .returned (.bool true) ∧ Below w.heap.size w w' := by
  go_enter Tryd.func70, Tryd.ntmps70
  go_wp2_with fail
  go_ret
  exact ⟨rfl, bel_alloc1 w _⟩
end Go.Proofs.YtllcgehfmkmcdaaDoor
namespace Go.Proofs.YtllcgehfmkmcdaaDoor
open Go.RowKit
set_option linter.unusedVariables false
theorem forms_lit (w : World) : Calls Tryd.prog 56 #[] w fun e w' => e = .returned (.agg #[.nilFunc, .nilFunc, .nilFunc, .nilFunc, .func (.func 66) #[] #[], .func (.func 67) #[] #[], .func (.func 68) #[] #[], .func (.func 69) #[] #[], .func (.func 70) #[] #[], .func (.func 71) #[] #[], .func (.func 72) #[] #[], .func (.func 73) #[] #[], .func (.func 74) #[] #[], .func (.func 75) #[] #[], .func (.func 76) #[] #[], .func (.func 77) #[] #[]]) ∧ Below w.heap.size w w' := forms_any w
@[local go_sem] theorem idx_form1 (w : World) : (Instr.index 87 (.agg #[.nilFunc, .nilFunc, .nilFunc, .nilFunc, .func (.func 66) #[] #[], .func (.func 67) #[] #[], .func (.func 68) #[] #[], .func (.func 69) #[] #[], .func (.func 70) #[] #[], .func (.func 71) #[] #[], .func (.func 72) #[] #[], .func (.func 73) #[] #[], .func (.func 74) #[] #[], .func (.func 75) #[] #[], .func (.func 76) #[] #[], .func (.func 77) #[] #[]]) (.int .i64 1)).run Tryd.prog w = .ok (.agg #[.func (.func 66) #[] #[], .func (.func 67) #[] #[], .func (.func 68) #[] #[], .func (.func 69) #[] #[]]) w := by
  have h := Tryd.underlying87
  simp [Instr.index, run_underlying h, asIntOf, go_sem]
@[local go_sem] theorem idx_form2 (w : World) : (Instr.index 87 (.agg #[.nilFunc, .nilFunc, .nilFunc, .nilFunc, .func (.func 66) #[] #[], .func (.func 67) #[] #[], .func (.func 68) #[] #[], .func (.func 69) #[] #[], .func (.func 70) #[] #[], .func (.func 71) #[] #[], .func (.func 72) #[] #[], .func (.func 73) #[] #[], .func (.func 74) #[] #[], .func (.func 75) #[] #[], .func (.func 76) #[] #[], .func (.func 77) #[] #[]]) (.int .i64 2)).run Tryd.prog w = .ok (.agg #[.func (.func 70) #[] #[], .func (.func 71) #[] #[], .func (.func 72) #[] #[], .func (.func 73) #[] #[]]) w := by
  have h := Tryd.underlying87
  simp [Instr.index, run_underlying h, asIntOf, go_sem]
@[local go_sem] theorem idx_form3 (w : World) : (Instr.index 87 (.agg #[.nilFunc, .nilFunc, .nilFunc, .nilFunc, .func (.func 66) #[] #[], .func (.func 67) #[] #[], .func (.func 68) #[] #[], .func (.func 69) #[] #[], .func (.func 70) #[] #[], .func (.func 71) #[] #[], .func (.func 72) #[] #[], .func (.func 73) #[] #[], .func (.func 74) #[] #[], .func (.func 75) #[] #[], .func (.func 76) #[] #[], .func (.func 77) #[] #[]]) (.int .i64 3)).run Tryd.prog w = .ok (.agg #[.func (.func 74) #[] #[], .func (.func 75) #[] #[], .func (.func 76) #[] #[], .func (.func 77) #[] #[]]) w := by
  have h := Tryd.underlying87
  simp [Instr.index, run_underlying h, asIntOf, go_sem]
@[local go_sem] theorem fld_form10 (w : World) : (Instr.field 86 (.agg #[.func (.func 66) #[] #[], .func (.func 67) #[] #[], .func (.func 68) #[] #[], .func (.func 69) #[] #[]]) 0).run Tryd.prog w = .ok (.func (.func 66) #[] #[]) w := by
  have h := Tryd.underlying86
  simp [Instr.field, asAgg, run_underlying h, go_sem]
@[local go_sem] theorem fld_form11 (w : World) : (Instr.field 86 (.agg #[.func (.func 66) #[] #[], .func (.func 67) #[] #[], .func (.func 68) #[] #[], .func (.func 69) #[] #[]]) 1).run Tryd.prog w = .ok (.func (.func 67) #[] #[]) w := by
  have h := Tryd.underlying86
  simp [Instr.field, asAgg, run_underlying h, go_sem]
@[local go_sem] theorem fld_form12 (w : World) : (Instr.field 86 (.agg #[.func (.func 66) #[] #[], .func (.func 67) #[] #[], .func (.func 68) #[] #[], .func (.func 69) #[] #[]]) 2).run Tryd.prog w = .ok (.func (.func 68) #[] #[]) w := by
  have h := Tryd.underlying86
  simp [Instr.field, asAgg, run_underlying h, go_sem]
@[local go_sem] theorem fld_form20 (w : World) : (Instr.field 86 (.agg #[.func (.func 70) #[] #[], .func (.func 71) #[] #[], .func (.func 72) #[] #[], .func (.func 73) #[] #[]]) 0).run Tryd.prog w = .ok (.func (.func 70) #[] #[]) w := by
  have h := Tryd.underlying86
  simp [Instr.field, asAgg, run_underlying h, go_sem]
@[local go_sem] theorem fld_form21 (w : World) : (Instr.field 86 (.agg #[.func (.func 70) #[] #[], .func (.func 71) #[] #[], .func (.func 72) #[] #[], .func (.func 73) #[] #[]]) 1).run Tryd.prog w = .ok (.func (.func 71) #[] #[]) w := by
  have h := Tryd.underlying86
  simp [Instr.field, asAgg, run_underlying h, go_sem]
@[local go_sem] theorem fld_form22 (w : World) : (Instr.field 86 (.agg #[.func (.func 70) #[] #[], .func (.func 71) #[] #[], .func (.func 72) #[] #[], .func (.func 73) #[] #[]]) 2).run Tryd.prog w = .ok (.func (.func 72) #[] #[]) w := by
  have h := Tryd.underlying86
  simp [Instr.field, asAgg, run_underlying h, go_sem]
@[local go_sem] theorem fld_form30 (w : World) : (Instr.field 86 (.agg #[.func (.func 74) #[] #[], .func (.func 75) #[] #[], .func (.func 76) #[] #[], .func (.func 77) #[] #[]]) 0).run Tryd.prog w = .ok (.func (.func 74) #[] #[]) w := by
  have h := Tryd.underlying86
  simp [Instr.field, asAgg, run_underlying h, go_sem]
@[local go_sem] theorem fld_form31 (w : World) : (Instr.field 86 (.agg #[.func (.func 74) #[] #[], .func (.func 75) #[] #[], .func (.func 76) #[] #[], .func (.func 77) #[] #[]]) 1).run Tryd.prog w = .ok (.func (.func 75) #[] #[]) w := by
  have h := Tryd.underlying86
  simp [Instr.field, asAgg, run_underlying h, go_sem]
@[local go_sem] theorem fld_form32 (w : World) : (Instr.field 86 (.agg #[.func (.func 74) #[] #[], .func (.func 75) #[] #[], .func (.func 76) #[] #[], .func (.func 77) #[] #[]]) 2).run Tryd.prog w = .ok (.func (.func 76) #[] #[]) w := by
  have h := Tryd.underlying86
  simp [Instr.field, asAgg, run_underlying h, go_sem]
set_option maxRecDepth 100000 in
set_option maxHeartbeats 2000000 in
theorem wf_int (n : Int) (p : Option Addr) (cap : Nat) (w : World) : Calls Tryd.prog 54 #[.agg #[.int .i64 1, .int .i64 n, .string ⟨#[]⟩, .slice p 0 cap]] w fun e w' => e = .returned (.bool true) ∧ Below w.heap.size w w' := by
  go_enter Tryd.func54, Tryd.ntmps54
  go_wp2_with fail
  obtain ⟨W, hW⟩ : ∃ W, W = w.alloc (.cells #[.int .i64 1, .int .i64 n, .string ⟨#[]⟩, .slice p 0 cap] 54) := ⟨_, rfl⟩
  have hb : Below w.heap.size w W := by rw [hW]; exact bel_alloc1 w _
  have f0 : W.cell? ⟨w.heap.size, 0, none⟩ = some (.int .i64 1) := by rw [hW]; exact ((Blk.new w _ _).cell 0).trans rfl
  have f1 : W.cell? ⟨w.heap.size, 1, none⟩ = some (.int .i64 n) := by rw [hW]; exact ((Blk.new w _ _).cell 1).trans rfl
  have f2 : W.cell? ⟨w.heap.size, 2, none⟩ = some (.string ⟨#[]⟩) := by rw [hW]; exact ((Blk.new w _ _).cell 2).trans rfl
  have f3 : W.cell? ⟨w.heap.size, 3, none⟩ = some (.slice p 0 cap) := by rw [hW]; exact ((Blk.new w _ _).cell 3).trans rfl
  have lw : w.heap.size < W.heap.size := by rw [hW]; simp
  rw [← hW]
  have HB := Lib.hid hb
  have HALL : Hid (∀ w', Below W.heap.size W w' → (Below W.heap.size W w' ∧ w'.cell? ⟨w.heap.size, 0, none⟩ = some (.int .i64 1) ∧ w'.cell? ⟨w.heap.size, 1, none⟩ = some (.int .i64 n) ∧ w'.cell? ⟨w.heap.size, 2, none⟩ = some (.string ⟨#[]⟩) ∧ w'.cell? ⟨w.heap.size, 3, none⟩ = some (.slice p 0 cap))) :=
    Lib.hid fun w' h => ⟨h, (h.cell (p := ⟨w.heap.size, 0, none⟩) lw).trans f0, (h.cell (p := ⟨w.heap.size, 1, none⟩) lw).trans f1, (h.cell (p := ⟨w.heap.size, 2, none⟩) lw).trans f2, (h.cell (p := ⟨w.heap.size, 3, none⟩) lw).trans f3⟩
  have HRF := Lib.hid (Below.refl W.heap.size W)
  clear f0 f1 f2 f3 hb hW
  go_region_held3 (fun w' => (Below W.heap.size W w' ∧ w'.cell? ⟨w.heap.size, 0, none⟩ = some (.int .i64 1) ∧ w'.cell? ⟨w.heap.size, 1, none⟩ = some (.int .i64 n) ∧ w'.cell? ⟨w.heap.size, 2, none⟩ = some (.string ⟨#[]⟩) ∧ w'.cell? ⟨w.heap.size, 3, none⟩ = some (.slice p 0 cap)))
    (first | (exact HALL.out _ HRF.out.drew) | assumption | (exact HALL.out _ (bel_al (And.left (by assumption)) _)) | (exact HALL.out _ (bel_trans (And.left (by assumption)) (by assumption))))
    (first
      | (go_at_call 65; refine (known_yes 1 _ (by decide) (by decide)).mono ?_; rintro e u1 ⟨rfl, rfl⟩)
      | (go_at_call 56; refine (forms_lit _).mono ?_; rintro e u2 ⟨rfl, hbf⟩)
      | (go_at_call 66; refine (cleanInt_any 1 n p cap _).mono ?_; rintro e u3 ⟨rfl, hbc⟩))
  go_wp2_with fail
  go_ret
  refine ⟨rfl, ?_⟩
  exact bel_trans HB.out (And.left (by assumption))
set_option maxRecDepth 100000 in
set_option maxHeartbeats 2000000 in
theorem wf_text (s : ByteArray) (p : Option Addr) (cap : Nat) (w : World) : Calls Tryd.prog 54 #[.agg #[.int .i64 2, .int .i64 0, .string s, .slice p 0 cap]] w fun e w' => e = .returned (.bool true) ∧ Below w.heap.size w w' := by
  go_enter Tryd.func54, Tryd.ntmps54
  go_wp2_with fail
  obtain ⟨W, hW⟩ : ∃ W, W = w.alloc (.cells #[.int .i64 2, .int .i64 0, .string s, .slice p 0 cap] 54) := ⟨_, rfl⟩
  have hb : Below w.heap.size w W := by rw [hW]; exact bel_alloc1 w _
  have f0 : W.cell? ⟨w.heap.size, 0, none⟩ = some (.int .i64 2) := by rw [hW]; exact ((Blk.new w _ _).cell 0).trans rfl
  have f1 : W.cell? ⟨w.heap.size, 1, none⟩ = some (.int .i64 0) := by rw [hW]; exact ((Blk.new w _ _).cell 1).trans rfl
  have f2 : W.cell? ⟨w.heap.size, 2, none⟩ = some (.string s) := by rw [hW]; exact ((Blk.new w _ _).cell 2).trans rfl
  have f3 : W.cell? ⟨w.heap.size, 3, none⟩ = some (.slice p 0 cap) := by rw [hW]; exact ((Blk.new w _ _).cell 3).trans rfl
  have lw : w.heap.size < W.heap.size := by rw [hW]; simp
  rw [← hW]
  have HB := Lib.hid hb
  have HALL : Hid (∀ w', Below W.heap.size W w' → (Below W.heap.size W w' ∧ w'.cell? ⟨w.heap.size, 0, none⟩ = some (.int .i64 2) ∧ w'.cell? ⟨w.heap.size, 1, none⟩ = some (.int .i64 0) ∧ w'.cell? ⟨w.heap.size, 2, none⟩ = some (.string s) ∧ w'.cell? ⟨w.heap.size, 3, none⟩ = some (.slice p 0 cap))) :=
    Lib.hid fun w' h => ⟨h, (h.cell (p := ⟨w.heap.size, 0, none⟩) lw).trans f0, (h.cell (p := ⟨w.heap.size, 1, none⟩) lw).trans f1, (h.cell (p := ⟨w.heap.size, 2, none⟩) lw).trans f2, (h.cell (p := ⟨w.heap.size, 3, none⟩) lw).trans f3⟩
  have HRF := Lib.hid (Below.refl W.heap.size W)
  clear f0 f1 f2 f3 hb hW
  go_region_held3 (fun w' => (Below W.heap.size W w' ∧ w'.cell? ⟨w.heap.size, 0, none⟩ = some (.int .i64 2) ∧ w'.cell? ⟨w.heap.size, 1, none⟩ = some (.int .i64 0) ∧ w'.cell? ⟨w.heap.size, 2, none⟩ = some (.string s) ∧ w'.cell? ⟨w.heap.size, 3, none⟩ = some (.slice p 0 cap)))
    (first | (exact HALL.out _ HRF.out.drew) | assumption | (exact HALL.out _ (bel_al (And.left (by assumption)) _)) | (exact HALL.out _ (bel_trans (And.left (by assumption)) (by assumption))))
    (first
      | (go_at_call 65; refine (known_yes 2 _ (by decide) (by decide)).mono ?_; rintro e u1 ⟨rfl, rfl⟩)
      | (go_at_call 56; refine (forms_lit _).mono ?_; rintro e u2 ⟨rfl, hbf⟩)
      | (go_at_call 70; refine (cleanText_any 2 s p cap _).mono ?_; rintro e u3 ⟨rfl, hbc⟩))
  go_wp2_with fail
  go_ret
  refine ⟨rfl, ?_⟩
  exact bel_trans HB.out (And.left (by assumption))
end Go.Proofs.YtllcgehfmkmcdaaDoor
namespace Go.Proofs.YtllcgehfmkmcdaaDoor
open Go.RowKit
set_option linter.unusedVariables false

def strB (s : List Int) : ByteArray := ⟨(s.map fun z => UInt8.ofNat z.toNat).toArray⟩
def Atom.kind : Atom → Int
  | .int _ => 1
  | .text _ => 2
def Atom.num : Atom → Int
  | .int n => n
  | .text _ => 0
def Atom.str : Atom → ByteArray
  | .int _ => ⟨#[]⟩
  | .text s => strB s
/-- the atoms lie one behind the other, four cells each -/
def AtomsAt (w : World) (b o : Nat) (l : List Atom) : Prop := ∀ k, k < l.length →
  w.cell? ⟨b, o + k * 4, none⟩ = some (.int .i64 (l.getD k (.int 0)).kind) ∧ w.cell? ⟨b, o + k * 4 + 1, none⟩ = some (.int .i64 (l.getD k (.int 0)).num)
  ∧ w.cell? ⟨b, o + k * 4 + 2, none⟩ = some (.string (l.getD k (.int 0)).str) ∧ w.cell? ⟨b, o + k * 4 + 3, none⟩ = some (.slice none 0 0)
theorem AtomsAt.below {w w' : World} {n b o : Nat} {l : List Atom} (h : AtomsAt w b o l) (k : Below n w w') (hb : b < n) : AtomsAt w' b o l := fun j hj => by
  obtain ⟨c0, c1, c2, c3⟩ := h j hj
  exact ⟨(k.cell hb).trans c0, (k.cell hb).trans c1, (k.cell hb).trans c2, (k.cell hb).trans c3⟩
theorem wf_atom (a : Atom) (w : World) : Calls Tryd.prog 54 #[.agg #[.int .i64 a.kind, .int .i64 a.num, .string a.str, .slice none 0 0]] w fun e w' => e = .returned (.bool true) ∧ Below w.heap.size w w' := by
  cases a with
  | int n => exact wf_int n none 0 w
  | text s => exact wf_text (strB s) none 0 w
set_option maxRecDepth 100000 in
set_option maxHeartbeats 2000000 in
theorem cleanList_any (l : List Atom) (b o n cap : Nat) (w : World) (hn : Hid (n = l.length)) (hm : n ≤ 4611686018427387904) (hb : b < w.heap.size) (hl : Hid (AtomsAt w b o l)) :
    Calls Tryd.prog 74 #[.agg #[.int .i64 3, .int .i64 0, .string ⟨#[]⟩, .slice (some ⟨b, o, none⟩) n cap]] w fun e w' => e = .returned (.bool true) ∧ Below w.heap.size w w' := by
  go_enter Tryd.func74, Tryd.ntmps74
  go_wp2_with fail
  go_loopw [16] (fun i wr => ∃ k : Nat, k ≤ n ∧ i = .int .i64 k ∧ Hid (Below w.heap.size w wr)) (fun i _ => n - (intOf i).toNat)
  case atStart => exact ⟨0, by omega, rfl, Lib.hid (bel_alloc1 w _)⟩
  case round =>
    obtain ⟨k, hk, rfl, HB⟩ := hrel
    by_cases hlt : k < n
    · have hbr : b < wr.heap.size := Nat.lt_of_lt_of_le hb HB.out.size
      obtain ⟨c0, c1, c2, c3⟩ := hl.out.below HB.out hb k (by rw [← hn.out]; exact hlt)
      obtain ⟨at', hx⟩ : ∃ x, l.getD k (.int 0) = x := ⟨_, rfl⟩
      rw [hx] at c0 c1 c2
      have HX := Lib.hid hx; clear hx
      go_wp2_with (go_at_call 54; refine (wf_atom at' _).mono ?_; rintro e u1 ⟨rfl, hbw⟩)
      refine ⟨⟨k + 1, by omega, by simp, Lib.hid (bel_trans HB.out (bel_trans (bel_alloc1 wr _) hbw))⟩, ?_⟩
      simp only [intOf]; omega
    · go_wp2_with fail
      go_ret
      exact ⟨rfl, HB.out⟩
end Go.Proofs.YtllcgehfmkmcdaaDoor
namespace Go.Proofs.YtllcgehfmkmcdaaDoor
open Go.RowKit
set_option linter.unusedVariables false
attribute [local go_sem] idx_form1 idx_form2 idx_form3 fld_form10 fld_form11 fld_form12 fld_form20 fld_form21 fld_form22 fld_form30 fld_form31 fld_form32
set_option maxRecDepth 100000 in
set_option maxHeartbeats 2000000 in
theorem wf_list (l : List Atom) (b o n cap : Nat) (w : World) (hn : Hid (n = l.length)) (hm : n ≤ 4611686018427387904) (hbw : b < w.heap.size) (hl : Hid (AtomsAt w b o l)) : Calls Tryd.prog 54 #[.agg #[.int .i64 3, .int .i64 0, .string ⟨#[]⟩, .slice (some ⟨b, o, none⟩) n cap]] w fun e w' => e = .returned (.bool true) ∧ Below w.heap.size w w' := by
  go_enter Tryd.func54, Tryd.ntmps54
  go_wp2_with fail
  obtain ⟨W, hW⟩ : ∃ W, W = w.alloc (.cells #[.int .i64 3, .int .i64 0, .string ⟨#[]⟩, .slice (some ⟨b, o, none⟩) n cap] 54) := ⟨_, rfl⟩
  have hb : Below w.heap.size w W := by rw [hW]; exact bel_alloc1 w _
  have f0 : W.cell? ⟨w.heap.size, 0, none⟩ = some (.int .i64 3) := by rw [hW]; exact ((Blk.new w _ _).cell 0).trans rfl
  have f1 : W.cell? ⟨w.heap.size, 1, none⟩ = some (.int .i64 0) := by rw [hW]; exact ((Blk.new w _ _).cell 1).trans rfl
  have f2 : W.cell? ⟨w.heap.size, 2, none⟩ = some (.string ⟨#[]⟩) := by rw [hW]; exact ((Blk.new w _ _).cell 2).trans rfl
  have f3 : W.cell? ⟨w.heap.size, 3, none⟩ = some (.slice (some ⟨b, o, none⟩) n cap) := by rw [hW]; exact ((Blk.new w _ _).cell 3).trans rfl
  have lw : w.heap.size < W.heap.size := by rw [hW]; simp
  rw [← hW]
  have HB := Lib.hid hb
  have HALL : Hid (∀ w', Below W.heap.size W w' → (Below W.heap.size W w' ∧ w'.cell? ⟨w.heap.size, 0, none⟩ = some (.int .i64 3) ∧ w'.cell? ⟨w.heap.size, 1, none⟩ = some (.int .i64 0) ∧ w'.cell? ⟨w.heap.size, 2, none⟩ = some (.string ⟨#[]⟩) ∧ w'.cell? ⟨w.heap.size, 3, none⟩ = some (.slice (some ⟨b, o, none⟩) n cap))) :=
    Lib.hid fun w' h => ⟨h, (h.cell (p := ⟨w.heap.size, 0, none⟩) lw).trans f0, (h.cell (p := ⟨w.heap.size, 1, none⟩) lw).trans f1, (h.cell (p := ⟨w.heap.size, 2, none⟩) lw).trans f2, (h.cell (p := ⟨w.heap.size, 3, none⟩) lw).trans f3⟩
  have HRF := Lib.hid (Below.refl W.heap.size W)
  have HBL : Hid (∀ w', Below W.heap.size W w' → b < w'.heap.size) := Lib.hid fun w' h => Nat.lt_of_lt_of_le hbw (Nat.le_trans HB.out.size h.size)
  have HZL : Hid (∀ w', Below W.heap.size W w' → Hid (AtomsAt w' b o l)) := Lib.hid fun w' h => Lib.hid (hl.out.below (bel_trans HB.out h) hbw)
  clear f0 f1 f2 f3 hb hW
  go_region_held3 (fun w' => (Below W.heap.size W w' ∧ w'.cell? ⟨w.heap.size, 0, none⟩ = some (.int .i64 3) ∧ w'.cell? ⟨w.heap.size, 1, none⟩ = some (.int .i64 0) ∧ w'.cell? ⟨w.heap.size, 2, none⟩ = some (.string ⟨#[]⟩) ∧ w'.cell? ⟨w.heap.size, 3, none⟩ = some (.slice (some ⟨b, o, none⟩) n cap)))
    (first | (exact HALL.out _ HRF.out.drew) | assumption | (exact HALL.out _ (bel_al (And.left (by assumption)) _)) | (exact HALL.out _ (bel_trans (And.left (by assumption)) (by assumption))))
    (first
      | (go_at_call 65; refine (known_yes 3 _ (by decide) (by decide)).mono ?_; rintro e u1 ⟨rfl, rfl⟩)
      | (go_at_call 56; refine (forms_lit _).mono ?_; rintro e u2 ⟨rfl, hbf⟩)
      | (go_at_call 74; refine (cleanList_any l b o n cap _ hn hm (HBL.out _ (And.left (by assumption))) (HZL.out _ (And.left (by assumption)))).mono ?_; rintro e u3 ⟨rfl, hbc⟩))
  go_wp2_with fail
  go_ret
  refine ⟨rfl, ?_⟩
  exact bel_trans HB.out (And.left (by assumption))
set_option maxRecDepth 100000 in
set_option maxHeartbeats 2000000 in
theorem depth_atom (a : Atom) (w : World) : Calls Tryd.prog 55 #[.agg #[.int .i64 a.kind, .int .i64 a.num, .string a.str, .slice none 0 0]] w fun e w' => e = .returned (.int .i64 0) ∧ Below w.heap.size w w' := by
  cases a with
  | int n =>
    dsimp only [Atom.kind, Atom.num, Atom.str]
    go_enter Tryd.func55, Tryd.ntmps55
    go_wp2_with fail
    go_ret
    exact ⟨rfl, bel_alloc1 w _⟩
  | text s =>
    dsimp only [Atom.kind, Atom.num, Atom.str]
    go_enter Tryd.func55, Tryd.ntmps55
    go_wp2_with fail
    go_ret
    exact ⟨rfl, bel_alloc1 w _⟩
set_option maxRecDepth 100000 in
set_option maxHeartbeats 2000000 in
theorem depth_list (l : List Atom) (b o n cap : Nat) (w : World) (hn : Hid (n = l.length)) (hm : n ≤ 4611686018427387904) (hb : b < w.heap.size) (hl : Hid (AtomsAt w b o l)) :
    Calls Tryd.prog 55 #[.agg #[.int .i64 3, .int .i64 0, .string ⟨#[]⟩, .slice (some ⟨b, o, none⟩) n cap]] w fun e w' => e = .returned (.int .i64 1) ∧ Below w.heap.size w w' := by
  go_enter Tryd.func55, Tryd.ntmps55
  go_wp2_with fail
  go_loopw [3, 12] (fun x i wr => ∃ k : Nat, k ≤ n ∧ i = .int .i64 k ∧ x = .int .i64 0 ∧ Hid (Below w.heap.size w wr)) (fun _ i _ => n - (intOf i).toNat)
  case atStart => exact ⟨0, by omega, rfl, rfl, Lib.hid (bel_alloc1 w _)⟩
  case round =>
    obtain ⟨k, hk, rfl, rfl, HB⟩ := hrel
    by_cases hlt : k < n
    · have hbr : b < wr.heap.size := Nat.lt_of_lt_of_le hb HB.out.size
      obtain ⟨c0, c1, c2, c3⟩ := hl.out.below HB.out hb k (by rw [← hn.out]; exact hlt)
      obtain ⟨at', hx⟩ : ∃ x, l.getD k (.int 0) = x := ⟨_, rfl⟩
      rw [hx] at c0 c1 c2
      have HX := Lib.hid hx; clear hx
      go_wp2_with (go_at_call 55; refine (depth_atom at' _).mono ?_; rintro e u1 ⟨rfl, hbw⟩)
      refine ⟨⟨k + 1, by omega, by simp, rfl, Lib.hid (bel_trans HB.out (bel_trans (bel_alloc1 wr _) hbw))⟩, ?_⟩
      simp only [intOf]; omega
    · go_wp2_with fail
      go_ret
      exact ⟨rfl, HB.out⟩
set_option maxRecDepth 100000 in
set_option maxHeartbeats 2000000 in
theorem check_list (l : List Atom) (b o n cap : Nat) (w : World) (hn : Hid (n = l.length)) (hm : n ≤ 4611686018427387904) (hb : b < w.heap.size) (hl : Hid (AtomsAt w b o l)) :
    Calls Tryd.prog 45 #[.agg #[.int .i64 3, .int .i64 0, .string ⟨#[]⟩, .slice (some ⟨b, o, none⟩) n cap]] w fun e w' => e = .returned (.int .i64 0) ∧ Below w.heap.size w w' := by
  go_enter Tryd.func45, Tryd.ntmps45
  have B0 := bel_alloc1 w (.cells #[.int .i64 3, .int .i64 0, .string ⟨#[]⟩, .slice (some ⟨b, o, none⟩) n cap] 54)
  have V0 := Lib.hid (Blk.new w #[.int .i64 3, .int .i64 0, .string ⟨#[]⟩, .slice (some ⟨b, o, none⟩) n cap] 54)
  have HB0 := Lib.hid B0
  go_wp2_with (first
    | (go_at_call 54; refine (wf_list l b o n cap _ hn hm (Nat.lt_of_lt_of_le hb HB0.out.size) (Lib.hid (hl.out.below HB0.out hb))).mono ?_; rintro e u1 ⟨rfl, hb1⟩; have V1 := V0.out.below hb1 V0.out.lt; have f0 := V1.cell 0; have f1 := V1.cell 1; have f2 := V1.cell 2; have f3 := V1.cell 3; have HB1 := Lib.hid (bel_trans HB0.out hb1))
    | (go_at_call 55; refine (depth_list l b o n cap _ hn hm (Nat.lt_of_lt_of_le hb HB1.out.size) (Lib.hid (hl.out.below HB1.out hb))).mono ?_; rintro e u2 ⟨rfl, hb2⟩))
  go_ret
  exact ⟨rfl, bel_trans HB1.out hb2⟩
end Go.Proofs.YtllcgehfmkmcdaaDoor
namespace Go.Proofs.YtllcgehfmkmcdaaDoor
open Go.RowKit
set_option linter.unusedVariables false
set_option linter.unusedSimpArgs false

theorem strCells_bv (s : ByteArray) : Lib.strCells s = bv (strL s) := by
  unfold Lib.strCells bv strL
  rw [List.map_map]; rfl
theorem appS8 {ops : Array Oper} {rest : List Oper} {o : Oper} {a : Act} {w : World} {Q : Exit → Act → World → Prop} (hgd : o.guard = none) (s x : Operand)
    (ho : o.op = .call { callee := .builtin .append, args := #[s, x], argTypes := #[23, 9] }) (B : Nat) (v : Value) (xs : List Int) (hs : a.eval s = v) (hown : Own8 w B v xs)
    (st : ByteArray) (hx : a.eval x = .string st) (hlen : xs.length + st.size ≤ 2000000000) (hB : B ≤ w.heap.size)
    (h : ∀ v' w', Own8 w' B v' (xs ++ strL st) → w.grownBy w' v.ownBlock → wpList Tryd.prog ops Q rest (a.put o.dst v') w') : wpList Tryd.prog ops Q (o :: rest) a w := by
  obtain ⟨i0, hi, hz0, hz1, hz2⟩ := info_parts info8
  refine Lib.wpList_append_own_string _ hgd s x 23 9 ho B 5 i0 Tryd.underlying23 Tryd.underlying9 hi hz0 hz1 hz2 v xs.length (bv xs) hs hown st hx (by unfold maxLen; omega) (by omega) hB ?_
  intro v' w' h1 h2 _
  refine h v' w' ?_ h2
  unfold Own8
  rw [List.length_append, bv, List.map_append, strL_len]
  rw [strCells_bv] at h1
  exact h1
theorem Kp.bel {B : Nat} {w u u' : World} (h : Kp B w u) (hB : B ≤ w.heap.size) (k : Below u.heap.size u u') : Kp B w u' :=
  ⟨h.1.trans (k.mono (Nat.le_trans hB h.1.size)), fun i c t n b => (h.2 i c t n b).below k (h.2 i c t n b).lt⟩
theorem kp_of_bel {B : Nat} {w u : World} (hB : B ≤ w.heap.size) (k : Below w.heap.size w u) : Kp B w u := Kp.refl.bel hB k
/-- what is known while bytes are written -/
def Wr (B : Nat) (w : World) (v : Value) (xs : List Int) (u : World) : Prop := Own8 u B v xs ∧ Kp B w u
theorem Wr.stable {B : Nat} {w : World} {v : Value} {xs : List Int} (hB : B ≤ w.heap.size) : Stable (Wr B w v xs) := fun u u' h k => ⟨own8_below h.1 k, h.2.bel hB k⟩

set_option maxRecDepth 100000 in
set_option maxHeartbeats 2000000 in
theorem writeText_own (s : ByteArray) (B : Nat) (v : Value) (xs : List Int) (w : World) (ho : Hid (Own8 w B v xs)) (hs : s.size ≤ 1000000000) (hx : Hid (xs.length + 20 + s.size ≤ 2000000000)) (hB : B ≤ w.heap.size) :
    Calls Tryd.prog 71 #[v, .agg #[.int .i64 2, .int .i64 0, .string s, .slice none 0 0]] w fun e w' => ∃ v', e = .returned v' ∧ Own8 w' B v' (xs ++ (numL s.size ++ strL s)) ∧ Kp B w w' := by
  go_enter Tryd.func71, Tryd.ntmps71
  go_wp2_with fail
  refine wp_region_any (by kernel_rfl) ?_
  change wpAny _ _ _ _ _ _ _ (World.drew _)
  generalize hWD : World.drew _ = W
  have BX := Lib.hid (show Blk W w.heap.size #[.int .i64 2, .int .i64 0, .string s, .slice none 0 0] 54 by rw [← hWD]; exact Blk.new w _ _)
  have EW := Lib.hid (show Below w.heap.size w W by rw [← hWD]; exact (bel_alloc1 w _).drew)
  clear hWD
  have HO := Lib.hid (own8_below ho.out EW.out)
  have KW := Lib.hid (kp_of_bel hB EW.out)
  have hBW : B ≤ W.heap.size := Nat.le_trans hB EW.out.size
  have hCD : ∀ u, Ext W u → Blk u w.heap.size #[.int .i64 2, .int .i64 0, .string s, .slice none 0 0] 54 := fun u hu => BX.out.below hu BX.out.lt
  have HW : Hid (IntKind.u64.wrap (s.size : Int) = (s.size : Int)) := Lib.hid (by rw [IntKind.wrap_u64]; omega)
  refine region_U (D := fun u => Blk u w.heap.size #[.int .i64 2, .int .i64 0, .string s, .slice none 0 0] 54) (Ext W) [8, 9] (Ext.refl W) ?_
  refine anyU_takeD (i := 0) (v := v) 5 rfl rfl (by kernel_rfl) (by kernel_rfl) (by kernel_rfl) (fun _ _ _ h => h) (by kernel_rfl) (Ext.stable _) hCD (yieldsU_val rfl (fun u hu => by rfl)) ?_
  refine anyU_takeD (i := 1) (v := .pointer (some ⟨w.heap.size, 2, none⟩)) 6 rfl rfl (by kernel_rfl) (by kernel_rfl) (by kernel_rfl) (fun _ _ _ h => h) (by kernel_rfl) (Ext.stable _) hCD (yieldsU_val rfl (fun u hu => by go_simp)) ?_
  refine anyU_takeD (i := 2) (v := .string s) 7 rfl rfl (by kernel_rfl) (by kernel_rfl) (by kernel_rfl) (fun _ _ _ h => h) (by kernel_rfl) (Ext.stable _) hCD (yieldsU_val rfl (fun u hu => by have c := hu.cell 2; go_simp)) ?_
  refine anyU_takeD (i := 3) (v := .int .i64 (s.size : Int)) 8 rfl rfl (by kernel_rfl) (by kernel_rfl) (by kernel_rfl) (fun _ _ _ h => h) (by kernel_rfl) (Ext.stable _) hCD (yieldsU_val rfl (fun u hu => by go_simp)) ?_
  refine anyU_takeD (i := 4) (v := .int .u64 (s.size : Int)) 9 rfl rfl (by kernel_rfl) (by kernel_rfl) (by kernel_rfl) (fun _ _ _ h => h) (by kernel_rfl) (Ext.stable _) hCD (yieldsU_val rfl (fun u hu => by go_simp; rw [HW.out])) ?_
  refine anyU_takeD (i := 6) (v := .pointer (some ⟨w.heap.size, 2, none⟩)) 11 rfl rfl (by kernel_rfl) (by kernel_rfl) (by kernel_rfl) (fun _ _ _ h => h) (by kernel_rfl) (Ext.stable _) hCD (yieldsU_val rfl (fun u hu => by go_simp)) ?_
  refine anyU_takeD (i := 7) (v := .string s) 12 rfl rfl (by kernel_rfl) (by kernel_rfl) (by kernel_rfl) (fun _ _ _ h => h) (by kernel_rfl) (Ext.stable _) hCD (yieldsU_val rfl (fun u hu => by have c := hu.cell 2; go_simp)) ?_
  simp only [Act.put, List.setIfInBounds_toArray, List.set_cons_succ, List.set_cons_zero]
  refine anyU_one 5 2 _ rfl rfl (by kernel_rfl) ?_
  intro u hu
  go_wp2_with fail
  refine (writeNumeral_own s.size B v xs u (Lib.hid (own8_below HO.out hu)) (by omega) (Lib.hid (by have := hx.out; omega)) (Nat.le_trans hBW hu.size)).mono ?_
  rintro e u1 ⟨v1, rfl, o1, k1⟩
  have F1 := Lib.hid (show Wr B w v1 (xs ++ numL s.size) u1 from ⟨o1, (KW.out.bel hB hu).trans k1⟩)
  have BX1 := Lib.hid (k1.2 _ _ _ (by decide) (BX.out.below hu BX.out.lt))
  clear o1 k1 hu
  go_wp2_with fail
  change ∃ C' : World → Prop, _ ∧ _ ∧ _ ∧ anyU _ _ _ _ _ _ 2 _ _ _
  refine anchorF (fun x => Wr B w v1 (xs ++ numL s.size) x ∧ Blk x w.heap.size #[.int .i64 2, .int .i64 0, .string s, .slice none 0 0] 54) (fun x hx => hx.2) ((Wr.stable hB).and (fun x y h k => h.below k h.lt)) ⟨F1.out, BX1.out⟩ ?_
  (try simp only [Act.put])
  refine anyU_tail 8 [9] rfl rfl (by decide) (by kernel_rfl) ?_
  intro u2 hu2
  simp only [Act.put, List.filterMap_cons, List.filterMap_nil, List.getElem?_cons_succ, List.getElem?_cons_zero]
  have hl := numL_len s.size 9 (by simp; omega) (by omega)
  refine appS8 rfl (.tmp 10) (.tmp 12) rfl B v1 (xs ++ numL s.size) rfl hu2.1.1 s rfl (by have := hx.out; simp; omega) (Nat.le_trans hB hu2.1.2.1.size) ?_
  intro v2 u3 o3 g3
  have K3 := Lib.hid (hu2.1.2.grown hu2.1.1 g3 (Nat.le_trans hB hu2.1.2.1.size))
  have O3 := Lib.hid o3
  clear o3 g3 hu2
  go_wp2_with fail
  go_ret
  exact ⟨v2, rfl, by rw [← List.append_assoc]; exact O3.out, K3.out⟩
end Go.Proofs.YtllcgehfmkmcdaaDoor
namespace Go.Proofs.YtllcgehfmkmcdaaDoor
open Go.RowKit
set_option linter.unusedVariables false
set_option linter.unusedSimpArgs false

set_option maxRecDepth 100000 in
set_option maxHeartbeats 2000000 in
theorem unsigned_pos (n : Nat) (w : World) (hn : n < 9223372036854775808) : Calls Tryd.prog 79 #[.int .i64 n] w fun e w' => e = .returned (.int .u64 ((2 * n : Nat) : Int)) ∧ w = w' := by
  go_enter Tryd.func79, Tryd.ntmps79
  go_wp2_with fail
  go_ret
  have e1 : (n : Int) / 9223372036854775808 = ((0 : Nat) : Int) := by omega
  have e2 : (n : Int) * 2 = ((2 * n : Nat) : Int) := by omega
  refine ⟨?_, rfl⟩
  rw [e1, e2, bits_xor_u64_nat _ _ (by omega) (by omega), Nat.xor_zero]
  rfl
set_option maxRecDepth 100000 in
set_option maxHeartbeats 2000000 in
theorem unsigned_neg (n : Int) (w : World) (h0 : n < 0) (h1 : -9223372036854775808 ≤ n) : Calls Tryd.prog 79 #[.int .i64 n] w fun e w' => e = .returned (.int .u64 ((-2 * n - 1).toNat : Int)) ∧ w = w' := by
  go_enter Tryd.func79, Tryd.ntmps79
  go_wp2_with fail
  go_ret
  refine ⟨?_, rfl⟩
  show Ending.returned (Value.int IntKind.u64 (bits BinOp.xor IntKind.u64 (IntKind.u64.wrap (IntKind.u64.wrap n * 2)) (IntKind.u64.wrap (n / 9223372036854775808)))) = _
  obtain ⟨m, hm⟩ : ∃ m : Nat, 2 * n + 18446744073709551616 = (m : Int) := ⟨(2 * n + 18446744073709551616).toNat, by omega⟩
  have e1 : IntKind.u64.wrap n = n + 18446744073709551616 := by rw [IntKind.wrap_u64]; omega
  have e2 : IntKind.u64.wrap ((n + 18446744073709551616) * 2) = (m : Int) := by rw [IntKind.wrap_u64]; omega
  have e3 : IntKind.u64.wrap (n / 9223372036854775808) = ((18446744073709551615 : Nat) : Int) := by rw [IntKind.wrap_u64]; omega
  have e4 : m ^^^ 18446744073709551615 = 18446744073709551615 - m := by
    have h : (BitVec.ofNat 64 m ^^^ BitVec.allOnes 64).toNat = (~~~(BitVec.ofNat 64 m)).toNat := by rw [BitVec.xor_allOnes]
    rw [BitVec.toNat_xor, BitVec.toNat_not, BitVec.toNat_allOnes, BitVec.toNat_ofNat, Nat.mod_eq_of_lt (by omega)] at h
    exact h
  rw [e1, e2, e3, bits_xor_u64_nat _ _ (by omega) (by omega), e4]
  exact congrArg (fun z : Nat => Ending.returned (Value.int IntKind.u64 (z : Int))) (by omega)
theorem unsigned_any (n : Int) (w : World) (hn : inR n) : Calls Tryd.prog 79 #[.int .i64 n] w fun e w' => e = .returned (.int .u64 (zig n : Int)) ∧ w = w' := by
  obtain ⟨h1, h2⟩ := hn
  rcases Int.lt_or_le n 0 with h | h
  · have := unsigned_neg n w h h1
    unfold zig
    rw [if_neg (by omega)]
    exact this
  · obtain ⟨m, rfl⟩ := Int.eq_ofNat_of_zero_le h
    have := unsigned_pos m w (by omega)
    unfold zig
    rw [if_pos (by omega), show (2 * (m : Int)).toNat = 2 * m by omega]
    exact this
set_option maxRecDepth 100000 in
set_option maxHeartbeats 2000000 in
theorem writeInt_own (n : Int) (B : Nat) (v : Value) (xs : List Int) (w : World) (ho : Hid (Own8 w B v xs)) (hn : inR n) (hx : Hid (xs.length + 20 ≤ 2000000000)) (hB : B ≤ w.heap.size) :
    Calls Tryd.prog 67 #[v, .agg #[.int .i64 1, .int .i64 n, .string ⟨#[]⟩, .slice none 0 0]] w fun e w' => ∃ v', e = .returned v' ∧ Own8 w' B v' (xs ++ numL (zig n)) ∧ Kp B w w' := by
  go_enter Tryd.func67, Tryd.ntmps67
  go_wp2_with (first
    | (go_at_call 79; refine (unsigned_any n _ hn).mono ?_; rintro e u1 ⟨rfl, rfl⟩)
    | (go_at_call 78; refine (writeNumeral_own (zig n) B v xs _ (Lib.hid (own8_alloc ho.out _)) (zig_lt hn) hx (by simp; omega)).mono ?_; rintro e u2 ⟨v', rfl, ho2, hk2⟩))
  go_ret
  exact ⟨v', rfl, ho2, (Kp.refl.alloc hB _).trans hk2⟩
end Go.Proofs.YtllcgehfmkmcdaaDoor
namespace Go.Proofs.YtllcgehfmkmcdaaDoor
open Go.RowKit
set_option linter.unusedVariables false
set_option linter.unusedSimpArgs false
attribute [local go_sem] idx_form1 idx_form2 idx_form3 fld_form10 fld_form11 fld_form12 fld_form20 fld_form21 fld_form22 fld_form30 fld_form31 fld_form32
set_option maxRecDepth 100000 in
set_option maxHeartbeats 2000000 in
theorem writeValue_int (n : Int) (B : Nat) (v : Value) (xs : List Int) (w : World) (ho : Hid (Own8 w B v xs)) (hn : inR n) (hx : Hid (xs.length + 30 ≤ 2000000000)) (hB : B ≤ w.heap.size) :
    Calls Tryd.prog 46 #[v, .agg #[.int .i64 1, .int .i64 n, .string ⟨#[]⟩, .slice none 0 0]] w fun e w' => ∃ v', e = .returned v' ∧ Own8 w' B v' (xs ++ (1 :: numL (zig n))) ∧ Kp B w w' := by
  go_enter Tryd.func46, Tryd.ntmps46
  go_wp2_with fail
  refine wp_region_any (by kernel_rfl) ?_
  change wpAny _ _ _ _ _ _ _ (World.drew _)
  generalize hWD : World.drew _ = W
  have BX := Lib.hid (show Blk W w.heap.size #[.int .i64 1, .int .i64 n, .string ⟨#[]⟩, .slice none 0 0] 54 by rw [← hWD]; exact Blk.new w _ _)
  have EW := Lib.hid (show Below w.heap.size w W by rw [← hWD]; exact (bel_alloc1 w _).drew)
  clear hWD
  have HO := Lib.hid (own8_below ho.out EW.out)
  have KW := Lib.hid (kp_of_bel hB EW.out)
  have hBW : B ≤ W.heap.size := Nat.le_trans hB EW.out.size
  have hCD : ∀ u, Ext W u → Blk u w.heap.size #[.int .i64 1, .int .i64 n, .string ⟨#[]⟩, .slice none 0 0] 54 := fun u hu => BX.out.below hu BX.out.lt
  refine region_U (D := fun u => Blk u w.heap.size #[.int .i64 1, .int .i64 n, .string ⟨#[]⟩, .slice none 0 0] 54) (Ext W) [12, 13] (Ext.refl W) ?_
  refine anyU_takeD (i := 0) (v := .agg #[.nilFunc, .nilFunc, .nilFunc, .nilFunc, .func (.func 66) #[] #[], .func (.func 67) #[] #[], .func (.func 68) #[] #[], .func (.func 69) #[] #[], .func (.func 70) #[] #[], .func (.func 71) #[] #[], .func (.func 72) #[] #[], .func (.func 73) #[] #[], .func (.func 74) #[] #[], .func (.func 75) #[] #[], .func (.func 76) #[] #[], .func (.func 77) #[] #[]]) 5 rfl rfl (by kernel_rfl) (by kernel_rfl) (by kernel_rfl) (fun _ _ _ h => h) (by kernel_rfl) (Ext.stable _) hCD (yieldsU_call rfl 56 _ _ rfl #[] (by simp [Act.eval, Act.put]) (fun u => by go_simp) (fun u hu => forms_lit u)) ?_
  refine anyU_takeD (i := 1) (v := .pointer (some ⟨w.heap.size, 0, none⟩)) 6 rfl rfl (by kernel_rfl) (by kernel_rfl) (by kernel_rfl) (fun _ _ _ h => h) (by kernel_rfl) (Ext.stable _) hCD (yieldsU_val rfl (fun u hu => by go_simp)) ?_
  refine anyU_takeD (i := 2) (v := .int .i64 1) 7 rfl rfl (by kernel_rfl) (by kernel_rfl) (by kernel_rfl) (fun _ _ _ h => h) (by kernel_rfl) (Ext.stable _) hCD (yieldsU_val rfl (fun u hu => by have c := hu.cell 0; go_simp)) ?_
  refine anyU_takeD (i := 3) (v := .agg #[.func (.func 66) #[] #[], .func (.func 67) #[] #[], .func (.func 68) #[] #[], .func (.func 69) #[] #[]]) 8 rfl rfl (by kernel_rfl) (by kernel_rfl) (by kernel_rfl) (fun _ _ _ h => h) (by kernel_rfl) (Ext.stable _) hCD (yieldsU_val rfl (fun u hu => by go_simp)) ?_
  refine anyU_takeD (i := 4) (v := .func (.func 67) #[] #[]) 9 rfl rfl (by kernel_rfl) (by kernel_rfl) (by kernel_rfl) (fun _ _ _ h => h) (by kernel_rfl) (Ext.stable _) hCD (yieldsU_val rfl (fun u hu => by go_simp)) ?_
  simp only [Act.put, List.setIfInBounds_toArray, List.set_cons_succ, List.set_cons_zero]
  refine anyU_takeD (i := 5) (v := v) 10 rfl rfl (by kernel_rfl) (by kernel_rfl) (by kernel_rfl) (fun _ _ _ h => h) (by kernel_rfl) (Ext.stable _) hCD (yieldsU_val rfl (fun u hu => by rfl)) ?_
  refine anyU_takeD (i := 6) (v := .pointer (some ⟨w.heap.size, 0, none⟩)) 11 rfl rfl (by kernel_rfl) (by kernel_rfl) (by kernel_rfl) (fun _ _ _ h => h) (by kernel_rfl) (Ext.stable _) hCD (yieldsU_val rfl (fun u hu => by go_simp)) ?_
  refine anyU_takeD (i := 7) (v := .int .i64 1) 12 rfl rfl (by kernel_rfl) (by kernel_rfl) (by kernel_rfl) (fun _ _ _ h => h) (by kernel_rfl) (Ext.stable _) hCD (yieldsU_val rfl (fun u hu => by have c := hu.cell 0; go_simp)) ?_
  refine anyU_takeD (i := 8) (v := .int .u8 1) 13 rfl rfl (by kernel_rfl) (by kernel_rfl) (by kernel_rfl) (fun _ _ _ h => h) (by kernel_rfl) (Ext.stable _) hCD (yieldsU_val rfl (fun u hu => by go_simp; rfl)) ?_
  refine anyU_takeD (i := 11) (v := .agg #[.int .i64 1, .int .i64 n, .string ⟨#[]⟩, .slice none 0 0]) 16 rfl rfl (by kernel_rfl) (by kernel_rfl) (by kernel_rfl) (fun _ _ _ h => h) (by kernel_rfl) (Ext.stable _) hCD (yieldsU_val rfl (fun u hu => by have c0 := hu.cell 0; have c1 := hu.cell 1; have c2 := hu.cell 2; have c3 := hu.cell 3; go_simp)) ?_
  simp only [Act.put, List.setIfInBounds_toArray, List.set_cons_succ, List.set_cons_zero]
  refine anyU_one 9 3 _ rfl rfl (by kernel_rfl) ?_
  intro u hu
  go_wp2_with fail
  change ∃ C' : World → Prop, _ ∧ _ ∧ _ ∧ anyU _ _ _ _ _ _ 3 _ _ _
  have hb1 : Below u.heap.size u (u.alloc (.cells #[.int .u8 1] 5)) := bel_alloc1 u _
  have F1 := Lib.hid (show Wr B w v xs (u.alloc (.cells #[.int .u8 1] 5)) from Wr.stable hB _ _ ⟨own8_below HO.out hu, KW.out.bel hB hu⟩ hb1)
  have Z1 := Lib.hid (oneB u 1)
  have X1 := Lib.hid (show Blk (u.alloc (.cells #[.int .u8 1] 5)) w.heap.size #[.int .i64 1, .int .i64 n, .string ⟨#[]⟩, .slice none 0 0] 54 from (hCD u hu).alloc _)
  have lt1 : u.heap.size < (u.alloc (.cells #[.int .u8 1] 5)).heap.size := by simp
  have le1 : B ≤ u.heap.size := Nat.le_trans hBW hu.size
  generalize World.alloc u _ = u1 at F1 Z1 X1 lt1 ⊢
  generalize u.heap.size = bb at Z1 lt1 le1 ⊢
  clear hu hb1
  refine anchorF (fun x => Wr B w v xs x ∧ (bb < x.heap.size ∧ BytesAt x bb 0 [1]) ∧ Blk x w.heap.size #[.int .i64 1, .int .i64 n, .string ⟨#[]⟩, .slice none 0 0] 54) (fun x hx => hx.2.2) ((Wr.stable hB).and (Stable.and (fun x y h k => ⟨Nat.lt_of_lt_of_le h.1 k.size, h.2.below k h.1⟩) (fun x y h k => h.below k h.lt))) ⟨F1.out, ⟨lt1, Z1.out⟩, X1.out⟩ ?_
  (try simp only [Act.put])
  refine anyU_one 10 2 _ rfl rfl (by kernel_rfl) ?_
  intro u2 hu2
  refine app8 rfl (.tmp 10) (.tmp 14) rfl B v xs rfl hu2.1.1 (some ⟨bb, 0, none⟩) 1 1 [1] rfl ⟨rfl, .inr ⟨bb, 0, rfl, hu2.2.1.1, hu2.2.1.2⟩⟩ (by have := hx.out; simp; omega) (Nat.le_trans hB hu2.1.2.1.size) ?_
  intro v2 u3 o3 g3
  have F3 := Lib.hid (show Wr B w v2 (xs ++ [1]) u3 from ⟨o3, hu2.1.2.grown hu2.1.1 g3 (Nat.le_trans hB hu2.1.2.1.size)⟩)
  have X3 := Lib.hid (show Blk u3 w.heap.size #[.int .i64 1, .int .i64 n, .string ⟨#[]⟩, .slice none 0 0] 54 from ((Kp.refl (B := B) (w := u2)).grown hu2.1.1 g3 (Nat.le_trans hB hu2.1.2.1.size)).2 _ _ _ (by decide) hu2.2.2)
  clear o3 g3 hu2
  change ∃ C' : World → Prop, _ ∧ _ ∧ _ ∧ anyU _ _ _ _ _ _ 2 _ _ _
  refine anchorF (fun x => Wr B w v2 (xs ++ [1]) x ∧ Blk x w.heap.size #[.int .i64 1, .int .i64 n, .string ⟨#[]⟩, .slice none 0 0] 54) (fun x hx => hx.2) ((Wr.stable hB).and (fun x y h k => h.below k h.lt)) ⟨F3.out, X3.out⟩ ?_
  (try simp only [Act.put])
  refine anyU_tail 12 [13] rfl rfl (by decide) (by kernel_rfl) ?_
  intro u4 hu4
  simp only [Act.put, List.filterMap_cons, List.filterMap_nil, List.getElem?_cons_succ, List.getElem?_cons_zero]
  go_wp2_with fail
  refine (writeInt_own n B v2 (xs ++ [1]) u4 (Lib.hid hu4.1.1) hn (Lib.hid (by have := hx.out; simp; omega)) (Nat.le_trans hB hu4.1.2.1.size)).mono ?_
  rintro e u5 ⟨v5, rfl, o5, k5⟩
  have O5 := Lib.hid o5
  have K5 := Lib.hid (hu4.1.2.trans k5)
  clear o5 k5 hu4
  go_wp2_with fail
  go_ret
  exact ⟨v5, rfl, by have := O5.out; rwa [List.append_assoc] at this, K5.out⟩
set_option maxRecDepth 100000 in
set_option maxHeartbeats 2000000 in
theorem writeValue_text (s : ByteArray) (B : Nat) (v : Value) (xs : List Int) (w : World) (ho : Hid (Own8 w B v xs)) (hs : s.size ≤ 1000000000) (hx : Hid (xs.length + 30 + s.size ≤ 2000000000)) (hB : B ≤ w.heap.size) :
    Calls Tryd.prog 46 #[v, .agg #[.int .i64 2, .int .i64 0, .string s, .slice none 0 0]] w fun e w' => ∃ v', e = .returned v' ∧ Own8 w' B v' (xs ++ (2 :: (numL s.size ++ strL s))) ∧ Kp B w w' := by
  go_enter Tryd.func46, Tryd.ntmps46
  go_wp2_with fail
  refine wp_region_any (by kernel_rfl) ?_
  change wpAny _ _ _ _ _ _ _ (World.drew _)
  generalize hWD : World.drew _ = W
  have BX := Lib.hid (show Blk W w.heap.size #[.int .i64 2, .int .i64 0, .string s, .slice none 0 0] 54 by rw [← hWD]; exact Blk.new w _ _)
  have EW := Lib.hid (show Below w.heap.size w W by rw [← hWD]; exact (bel_alloc1 w _).drew)
  clear hWD
  have HO := Lib.hid (own8_below ho.out EW.out)
  have KW := Lib.hid (kp_of_bel hB EW.out)
  have hBW : B ≤ W.heap.size := Nat.le_trans hB EW.out.size
  have hCD : ∀ u, Ext W u → Blk u w.heap.size #[.int .i64 2, .int .i64 0, .string s, .slice none 0 0] 54 := fun u hu => BX.out.below hu BX.out.lt
  refine region_U (D := fun u => Blk u w.heap.size #[.int .i64 2, .int .i64 0, .string s, .slice none 0 0] 54) (Ext W) [12, 13] (Ext.refl W) ?_
  refine anyU_takeD (i := 0) (v := .agg #[.nilFunc, .nilFunc, .nilFunc, .nilFunc, .func (.func 66) #[] #[], .func (.func 67) #[] #[], .func (.func 68) #[] #[], .func (.func 69) #[] #[], .func (.func 70) #[] #[], .func (.func 71) #[] #[], .func (.func 72) #[] #[], .func (.func 73) #[] #[], .func (.func 74) #[] #[], .func (.func 75) #[] #[], .func (.func 76) #[] #[], .func (.func 77) #[] #[]]) 5 rfl rfl (by kernel_rfl) (by kernel_rfl) (by kernel_rfl) (fun _ _ _ h => h) (by kernel_rfl) (Ext.stable _) hCD (yieldsU_call rfl 56 _ _ rfl #[] (by simp [Act.eval, Act.put]) (fun u => by go_simp) (fun u hu => forms_lit u)) ?_
  refine anyU_takeD (i := 1) (v := .pointer (some ⟨w.heap.size, 0, none⟩)) 6 rfl rfl (by kernel_rfl) (by kernel_rfl) (by kernel_rfl) (fun _ _ _ h => h) (by kernel_rfl) (Ext.stable _) hCD (yieldsU_val rfl (fun u hu => by go_simp)) ?_
  refine anyU_takeD (i := 2) (v := .int .i64 2) 7 rfl rfl (by kernel_rfl) (by kernel_rfl) (by kernel_rfl) (fun _ _ _ h => h) (by kernel_rfl) (Ext.stable _) hCD (yieldsU_val rfl (fun u hu => by have c := hu.cell 0; go_simp)) ?_
  refine anyU_takeD (i := 3) (v := .agg #[.func (.func 70) #[] #[], .func (.func 71) #[] #[], .func (.func 72) #[] #[], .func (.func 73) #[] #[]]) 8 rfl rfl (by kernel_rfl) (by kernel_rfl) (by kernel_rfl) (fun _ _ _ h => h) (by kernel_rfl) (Ext.stable _) hCD (yieldsU_val rfl (fun u hu => by go_simp)) ?_
  refine anyU_takeD (i := 4) (v := .func (.func 71) #[] #[]) 9 rfl rfl (by kernel_rfl) (by kernel_rfl) (by kernel_rfl) (fun _ _ _ h => h) (by kernel_rfl) (Ext.stable _) hCD (yieldsU_val rfl (fun u hu => by go_simp)) ?_
  simp only [Act.put, List.setIfInBounds_toArray, List.set_cons_succ, List.set_cons_zero]
  refine anyU_takeD (i := 5) (v := v) 10 rfl rfl (by kernel_rfl) (by kernel_rfl) (by kernel_rfl) (fun _ _ _ h => h) (by kernel_rfl) (Ext.stable _) hCD (yieldsU_val rfl (fun u hu => by rfl)) ?_
  refine anyU_takeD (i := 6) (v := .pointer (some ⟨w.heap.size, 0, none⟩)) 11 rfl rfl (by kernel_rfl) (by kernel_rfl) (by kernel_rfl) (fun _ _ _ h => h) (by kernel_rfl) (Ext.stable _) hCD (yieldsU_val rfl (fun u hu => by go_simp)) ?_
  refine anyU_takeD (i := 7) (v := .int .i64 2) 12 rfl rfl (by kernel_rfl) (by kernel_rfl) (by kernel_rfl) (fun _ _ _ h => h) (by kernel_rfl) (Ext.stable _) hCD (yieldsU_val rfl (fun u hu => by have c := hu.cell 0; go_simp)) ?_
  refine anyU_takeD (i := 8) (v := .int .u8 2) 13 rfl rfl (by kernel_rfl) (by kernel_rfl) (by kernel_rfl) (fun _ _ _ h => h) (by kernel_rfl) (Ext.stable _) hCD (yieldsU_val rfl (fun u hu => by go_simp; rfl)) ?_
  refine anyU_takeD (i := 11) (v := .agg #[.int .i64 2, .int .i64 0, .string s, .slice none 0 0]) 16 rfl rfl (by kernel_rfl) (by kernel_rfl) (by kernel_rfl) (fun _ _ _ h => h) (by kernel_rfl) (Ext.stable _) hCD (yieldsU_val rfl (fun u hu => by have c0 := hu.cell 0; have c1 := hu.cell 1; have c2 := hu.cell 2; have c3 := hu.cell 3; go_simp)) ?_
  simp only [Act.put, List.setIfInBounds_toArray, List.set_cons_succ, List.set_cons_zero]
  refine anyU_one 9 3 _ rfl rfl (by kernel_rfl) ?_
  intro u hu
  go_wp2_with fail
  change ∃ C' : World → Prop, _ ∧ _ ∧ _ ∧ anyU _ _ _ _ _ _ 3 _ _ _
  have hb1 : Below u.heap.size u (u.alloc (.cells #[.int .u8 2] 5)) := bel_alloc1 u _
  have F1 := Lib.hid (show Wr B w v xs (u.alloc (.cells #[.int .u8 2] 5)) from Wr.stable hB _ _ ⟨own8_below HO.out hu, KW.out.bel hB hu⟩ hb1)
  have Z1 := Lib.hid (oneB u 2)
  have X1 := Lib.hid (show Blk (u.alloc (.cells #[.int .u8 2] 5)) w.heap.size #[.int .i64 2, .int .i64 0, .string s, .slice none 0 0] 54 from (hCD u hu).alloc _)
  have lt1 : u.heap.size < (u.alloc (.cells #[.int .u8 2] 5)).heap.size := by simp
  have le1 : B ≤ u.heap.size := Nat.le_trans hBW hu.size
  generalize World.alloc u _ = u1 at F1 Z1 X1 lt1 ⊢
  generalize u.heap.size = bb at Z1 lt1 le1 ⊢
  clear hu hb1
  refine anchorF (fun x => Wr B w v xs x ∧ (bb < x.heap.size ∧ BytesAt x bb 0 [2]) ∧ Blk x w.heap.size #[.int .i64 2, .int .i64 0, .string s, .slice none 0 0] 54) (fun x hx => hx.2.2) ((Wr.stable hB).and (Stable.and (fun x y h k => ⟨Nat.lt_of_lt_of_le h.1 k.size, h.2.below k h.1⟩) (fun x y h k => h.below k h.lt))) ⟨F1.out, ⟨lt1, Z1.out⟩, X1.out⟩ ?_
  (try simp only [Act.put])
  refine anyU_one 10 2 _ rfl rfl (by kernel_rfl) ?_
  intro u2 hu2
  refine app8 rfl (.tmp 10) (.tmp 14) rfl B v xs rfl hu2.1.1 (some ⟨bb, 0, none⟩) 1 1 [2] rfl ⟨rfl, .inr ⟨bb, 0, rfl, hu2.2.1.1, hu2.2.1.2⟩⟩ (by have := hx.out; simp; omega) (Nat.le_trans hB hu2.1.2.1.size) ?_
  intro v2 u3 o3 g3
  have F3 := Lib.hid (show Wr B w v2 (xs ++ [2]) u3 from ⟨o3, hu2.1.2.grown hu2.1.1 g3 (Nat.le_trans hB hu2.1.2.1.size)⟩)
  have X3 := Lib.hid (show Blk u3 w.heap.size #[.int .i64 2, .int .i64 0, .string s, .slice none 0 0] 54 from ((Kp.refl (B := B) (w := u2)).grown hu2.1.1 g3 (Nat.le_trans hB hu2.1.2.1.size)).2 _ _ _ (by decide) hu2.2.2)
  clear o3 g3 hu2
  change ∃ C' : World → Prop, _ ∧ _ ∧ _ ∧ anyU _ _ _ _ _ _ 2 _ _ _
  refine anchorF (fun x => Wr B w v2 (xs ++ [2]) x ∧ Blk x w.heap.size #[.int .i64 2, .int .i64 0, .string s, .slice none 0 0] 54) (fun x hx => hx.2) ((Wr.stable hB).and (fun x y h k => h.below k h.lt)) ⟨F3.out, X3.out⟩ ?_
  (try simp only [Act.put])
  refine anyU_tail 12 [13] rfl rfl (by decide) (by kernel_rfl) ?_
  intro u4 hu4
  simp only [Act.put, List.filterMap_cons, List.filterMap_nil, List.getElem?_cons_succ, List.getElem?_cons_zero]
  go_wp2_with fail
  refine (writeText_own s B v2 (xs ++ [2]) u4 (Lib.hid hu4.1.1) hs (Lib.hid (by have := hx.out; simp; omega)) (Nat.le_trans hB hu4.1.2.1.size)).mono ?_
  rintro e u5 ⟨v5, rfl, o5, k5⟩
  have O5 := Lib.hid o5
  have K5 := Lib.hid (hu4.1.2.trans k5)
  clear o5 k5 hu4
  go_wp2_with fail
  go_ret
  exact ⟨v5, rfl, by have := O5.out; rwa [List.append_assoc] at this, K5.out⟩
end Go.Proofs.YtllcgehfmkmcdaaDoor
namespace Go.Proofs.YtllcgehfmkmcdaaDoor
open Go.RowKit
set_option linter.unusedVariables false
set_option linter.unusedSimpArgs false

def Atom.ok : Atom → Prop
  | .int n => inR n
  | .text s => s.length ≤ 1000000000 ∧ ∀ z ∈ s, 0 ≤ z ∧ z ≤ 255
def Atom.sz : Atom → Nat
  | .int _ => 40
  | .text s => 40 + s.length
def lenA (l : List Atom) : Nat := (l.map Atom.sz).sum
theorem lenA_cons (a : Atom) (l : List Atom) : lenA (a :: l) = a.sz + lenA l := by simp [lenA]
theorem lenA_append (l r : List Atom) : lenA (l ++ r) = lenA l + lenA r := by simp [lenA]
theorem lenA_take {l : List Atom} {k : Nat} (h : k < l.length) : lenA (l.take (k + 1)) = lenA (l.take k) + (l.getD k (.int 0)).sz ∧ lenA (l.take (k + 1)) ≤ lenA l := by
  have e : l.take (k + 1) = l.take k ++ [l.getD k (.int 0)] := by rw [List.take_succ_eq_append_getElem h]; simp [List.getD, h]
  refine ⟨by rw [e, lenA_append]; simp [lenA], ?_⟩
  have := lenA_append (l.take (k + 1)) (l.drop (k + 1))
  rw [List.take_append_drop] at this
  omega
theorem strL_strB {s : List Int} (h : ∀ z ∈ s, 0 ≤ z ∧ z ≤ 255) : strL (strB s) = s := by
  unfold strL strB
  rw [List.map_map]
  conv => rhs; rw [← List.map_id s]
  apply List.map_congr_left
  intro z hz
  have := h z hz
  show ((UInt8.ofNat z.toNat).toNat : Int) = z
  rw [UInt8.toNat_ofNat_of_lt' (by show z.toNat < 256; omega)]
  omega
theorem strB_size (s : List Int) : (strB s).size = s.length := by
  show ((s.map _).toArray).size = _
  simp
theorem zig_nat (n : Nat) : zig (n : Int) = 2 * n := by unfold zig; rw [if_pos (by omega)]; omega
theorem enc_len {a : Atom} (h : a.ok) : a.enc.length ≤ a.sz := by
  cases a with
  | int n =>
    have := numL_len (zig n) 10 (by have := zig_lt h; simp; omega) (by omega)
    simp only [Atom.enc, Atom.sz, List.length_cons]; omega
  | text s =>
    have := numL_len s.length 9 (by have := h.1; simp; omega) (by omega)
    simp only [Atom.enc, Atom.sz, List.length_cons, List.length_append]; omega
set_option maxHeartbeats 1000000 in
theorem writeValue_atom (a : Atom) (ha : a.ok) (B : Nat) (v : Value) (xs : List Int) (w : World) (ho : Hid (Own8 w B v xs)) (hx : Hid (xs.length + a.sz ≤ 2000000000)) (hB : B ≤ w.heap.size) :
    Calls Tryd.prog 46 #[v, .agg #[.int .i64 a.kind, .int .i64 a.num, .string a.str, .slice none 0 0]] w fun e w' => ∃ v', e = .returned v' ∧ Own8 w' B v' (xs ++ a.enc) ∧ Kp B w w' := by
  cases a with
  | int n =>
    exact writeValue_int n B v xs w ho ha (Lib.hid (by have := hx.out; simp only [Atom.sz] at this; omega)) hB
  | text s =>
    have h := writeValue_text (strB s) B v xs w ho (by rw [strB_size]; exact ha.1) (Lib.hid (by have := hx.out; simp only [Atom.sz] at this; rw [strB_size]; omega)) hB
    rw [strL_strB ha.2, strB_size] at h
    exact h
theorem encs_take {l : List Atom} {k : Nat} (h : k < l.length) : ((l.take (k + 1)).map Atom.enc).flatten = ((l.take k).map Atom.enc).flatten ++ (l.getD k (.int 0)).enc := by
  have e : l.take (k + 1) = l.take k ++ [l.getD k (.int 0)] := by rw [List.take_succ_eq_append_getElem h]; simp [List.getD, h]
  rw [e, List.map_append, List.flatten_append]; simp
theorem getD_mem' {l : List Atom} {k : Nat} (h : k < l.length) : l.getD k (.int 0) ∈ l := by
  rw [List.getD_eq_getElem?_getD, List.getElem?_eq_getElem h]; exact List.getElem_mem h
set_option maxRecDepth 100000 in
set_option maxHeartbeats 2000000 in
theorem writeList_own (l : List Atom) (b o n cap : Nat) (B : Nat) (v : Value) (xs : List Int) (w : World) (hn : Hid (n = l.length)) (hm : n ≤ 1000000) (hok : Hid (∀ a ∈ l, a.ok)) (hb : b < B) (hl : Hid (AtomsAt w b o l)) (ho : Hid (Own8 w B v xs)) (hx : Hid (xs.length + 30 + lenA l ≤ 2000000000)) (hB : B ≤ w.heap.size) :
    Calls Tryd.prog 75 #[v, .agg #[.int .i64 3, .int .i64 0, .string ⟨#[]⟩, .slice (some ⟨b, o, none⟩) n cap]] w fun e w' => ∃ v', e = .returned v' ∧ Own8 w' B v' (xs ++ (numL n ++ (l.map Atom.enc).flatten)) ∧ Kp B w w' := by
  go_enter Tryd.func75, Tryd.ntmps75
  go_wp2_with (go_at_call 78; refine (writeNumeral_own n B v xs _ (Lib.hid (own8_alloc ho.out _)) (by omega) (Lib.hid (by have := hx.out; omega)) (by simp; omega)).mono ?_; rintro e u1 ⟨v1, rfl, o1, k1⟩; have XB := Lib.hid (k1.2 _ _ _ (by decide) (Blk.new w #[.int .i64 3, .int .i64 0, .string ⟨#[]⟩, .slice (some ⟨b, o, none⟩) n cap] 54)); have f3 := XB.out.cell 3; have HO1 := Lib.hid o1; have HK1 := Lib.hid ((Kp.refl.alloc hB _).trans k1); clear o1 k1)
  clear f3
  go_loopw [0, 16] (fun x i wr => ∃ (k : Nat) (v2 : Value) (ys : List Int), k ≤ n ∧ v2 = x ∧ i = .int .i64 k ∧ Hid (Own8 wr B v2 ys) ∧ Hid (ys = xs ++ (numL n ++ ((l.take k).map Atom.enc).flatten)) ∧ Hid (ys.length ≤ xs.length + 20 + lenA (l.take k)) ∧ Hid (Kp B w wr)) (fun _ i _ => n - (intOf i).toNat)
  case atStart =>
    refine ⟨0, v1, _, by omega, rfl, rfl, HO1, Lib.hid (by simp), Lib.hid ?_, HK1⟩
    have := numL_len n 9 (by simp; omega) (by omega)
    simp; omega
  case round =>
    obtain ⟨k, v2, ys, hk, rfl, rfl, HO, HY, HL, HK⟩ := hrel
    by_cases hlt : k < n
    · have hbr : b < wr.heap.size := by have := HK.out.1.size; omega
      have hkl : k < l.length := by rw [← hn.out]; exact hlt
      obtain ⟨c0, c1, c2, c3⟩ := hl.out.below HK.out.1 hb k hkl
      have hsz := lenA_take hkl
      have hat := hok.out _ (getD_mem' hkl)
      have hen := encs_take hkl
      have hel := enc_len hat
      obtain ⟨at', hx'⟩ : ∃ x, l.getD k (.int 0) = x := ⟨_, rfl⟩
      rw [hx'] at c0 c1 c2 hsz hat hen hel
      have HX := Lib.hid hx'; have HS := Lib.hid hsz; have HA := Lib.hid hat; have HE := Lib.hid hen; have HEL := Lib.hid hel
      clear hx' hsz hat hen hel
      have hBr : B ≤ wr.heap.size := by have := HK.out.1.size; omega
      go_wp2_with (go_at_call 46; refine (writeValue_atom at' HA.out B v2 ys _ (Lib.hid (own8_alloc HO.out _)) (Lib.hid (by have := hx.out; have := HL.out; have := HS.out; omega)) (by simp; omega)).mono ?_; rintro e u1 ⟨v3, rfl, o1, k1⟩)
      refine ⟨⟨k + 1, v3, _, by omega, rfl, by simp, Lib.hid o1, Lib.hid ?_, Lib.hid ?_, Lib.hid ((HK.out.alloc hBr _).trans k1)⟩, ?_⟩
      · rw [HY.out, HE.out]; simp only [List.append_assoc]
      · have := HL.out; have := HS.out; have := HEL.out
        rw [List.length_append]; omega
      · simp only [intOf]; omega
    · obtain rfl : k = n := by omega
      go_wp2_with fail
      go_ret
      refine ⟨v2, rfl, ?_, HK.out⟩
      have h := HO.out
      rw [HY.out, List.take_of_length_le (by have := hn.out; omega)] at h
      exact h
end Go.Proofs.YtllcgehfmkmcdaaDoor
namespace Go.Proofs.YtllcgehfmkmcdaaDoor
open Go.RowKit
set_option linter.unusedVariables false
set_option linter.unusedSimpArgs false

theorem len_joinC (X Y k : Nat) (hk : k ≤ 56) (e : Y = X / 2 ^ k) (h : Y ≠ 0) (h2 : Y < 256) : wrap64 ((k : Int) + wrap64 ((bitLen Y : Nat) : Int)) = ((bitLen X : Nat) : Int) := by
  subst e
  have h1 := bitLen_shift X k h
  have h3 := bitLen_le8 _ h2
  unfold wrap64
  omega
theorem len_oneC (Y : Nat) (h2 : Y < 256) : wrap64 (wrap64 ((bitLen Y : Nat) : Int)) = ((bitLen Y : Nat) : Int) := by
  have h3 := bitLen_le8 _ h2
  unfold wrap64
  omega

set_option maxRecDepth 100000 in
set_option maxHeartbeats 4000000 in
theorem len64C (x : Int) (w : World) (h0 : 0 ≤ x) (h1 : x ≤ 18446744073709551615) :
    Calls Tryd.prog 86 #[.int .u64 x] w fun e w' => e = .returned (.int .i64 (bitLen x.toNat)) ∧ w' = w := by
  go_enter Tryd.func86, Tryd.ntmps86
  go_wp2
  all_goals (go_ret; refine ⟨congrArg Ending.returned (congrArg (Value.int IntKind.i64) ?_), rfl⟩)
  all_goals rw [len8tab_get]
  · exact len_joinC x.toNat (x / 4294967296 / 65536 / 256).toNat 56 (by omega) (by omega) (by omega) (by omega)
  · exact len_joinC x.toNat (x / 4294967296 / 65536).toNat 48 (by omega) (by omega) (by omega) (by omega)
  · exact len_joinC x.toNat (x / 4294967296 / 256).toNat 40 (by omega) (by omega) (by omega) (by omega)
  · exact len_joinC x.toNat (x / 4294967296).toNat 32 (by omega) (by omega) (by omega) (by omega)
  · exact len_joinC x.toNat (x / 65536 / 256).toNat 24 (by omega) (by omega) (by omega) (by omega)
  · exact len_joinC x.toNat (x / 65536).toNat 16 (by omega) (by omega) (by omega) (by omega)
  · exact len_joinC x.toNat (x / 256).toNat 8 (by omega) (by omega) (by omega) (by omega)
  · exact len_oneC x.toNat (by omega)

end Go.Proofs.YtllcgehfmkmcdaaDoor
namespace Go.Proofs.YtllcgehfmkmcdaaDoor
open Go.RowKit
set_option linter.unusedVariables false
set_option linter.unusedSimpArgs false

set_option maxRecDepth 100000 in
set_option maxHeartbeats 2000000 in
theorem sizeNumeral_any (x : Nat) (w : World) (hx : x < 18446744073709551616) :
    Calls Tryd.prog 80 #[.int .u64 x] w fun e w' => (∃ k : Nat, e = .returned (.int .i64 k) ∧ k ≤ 10) ∧ w' = w := by
  have hb : bitLen x ≤ 64 := by
    by_cases h : x = 0
    · subst h; decide
    · have := (bitLen_spec x).1
      have h2 := (bitLen_spec x).2 (by omega)
      have : 2 ^ (bitLen x - 1) < 2 ^ 64 := by omega
      have := (Nat.pow_lt_pow_iff_right (a := 2) (by omega)).1 this
      omega
  obtain ⟨m, hm⟩ : ∃ m, bitLen x = m := ⟨_, rfl⟩
  rw [hm] at hb
  go_enter Tryd.func80, Tryd.ntmps80
  go_wp2_with (go_at_call 86; refine (len64C x _ (by omega) (by omega)).mono ?_; rintro e u1 ⟨rfl, rfl⟩; simp only [Int.toNat_natCast, hm])
  · go_ret
    exact ⟨⟨1, rfl, by omega⟩, rfl⟩
  · go_ret
    exact ⟨⟨(m + 6) / 7, by simp, by omega⟩, rfl⟩
set_option maxRecDepth 100000 in
set_option maxHeartbeats 2000000 in
theorem sizeInt_any (n : Int) (w : World) (hn : inR n) :
    Calls Tryd.prog 68 #[.agg #[.int .i64 1, .int .i64 n, .string ⟨#[]⟩, .slice none 0 0]] w fun e w' => (∃ k : Nat, e = .returned (.int .i64 k) ∧ k ≤ 10) ∧ Below w.heap.size w w' := by
  go_enter Tryd.func68, Tryd.ntmps68
  go_wp2_with (first
    | (go_at_call 79; refine (unsigned_any n _ hn).mono ?_; rintro e u1 ⟨rfl, rfl⟩)
    | (go_at_call 80; refine (sizeNumeral_any (zig n) _ (zig_lt hn)).mono ?_; rintro e u2 ⟨⟨k, rfl, hk⟩, rfl⟩))
  go_ret
  exact ⟨⟨k, rfl, hk⟩, bel_alloc1 w _⟩
end Go.Proofs.YtllcgehfmkmcdaaDoor
namespace Go.Proofs.YtllcgehfmkmcdaaDoor
open Go.RowKit
set_option linter.unusedVariables false
set_option linter.unusedSimpArgs false

set_option maxRecDepth 100000 in
set_option maxHeartbeats 2000000 in
theorem sizeText_any (s : ByteArray) (w : World) (hs : s.size ≤ 1073741824) : Calls Tryd.prog 72 #[.agg #[.int .i64 2, .int .i64 0, .string s, .slice none 0 0]] w fun e w' => (∃ k : Nat, e = .returned (.int .i64 k) ∧ k ≤ 10 + s.size) ∧ Below w.heap.size w w' := by
  go_enter Tryd.func72, Tryd.ntmps72
  go_wp2_with fail
  obtain ⟨W, hW⟩ : ∃ W, W = w.alloc (.cells #[.int .i64 2, .int .i64 0, .string s, .slice none 0 0] 54) := ⟨_, rfl⟩
  have hb : Below w.heap.size w W := by rw [hW]; exact bel_alloc1 w _
  have f0 : W.cell? ⟨w.heap.size, 0, none⟩ = some (.int .i64 2) := by rw [hW]; exact ((Blk.new w _ _).cell 0).trans rfl
  have f1 : W.cell? ⟨w.heap.size, 1, none⟩ = some (.int .i64 0) := by rw [hW]; exact ((Blk.new w _ _).cell 1).trans rfl
  have f2 : W.cell? ⟨w.heap.size, 2, none⟩ = some (.string s) := by rw [hW]; exact ((Blk.new w _ _).cell 2).trans rfl
  have f3 : W.cell? ⟨w.heap.size, 3, none⟩ = some (.slice none 0 0) := by rw [hW]; exact ((Blk.new w _ _).cell 3).trans rfl
  have lw : w.heap.size < W.heap.size := by rw [hW]; simp
  rw [← hW]
  have HB := Lib.hid hb
  have HALL : Hid (∀ w', Below W.heap.size W w' → (Below W.heap.size W w' ∧ w'.cell? ⟨w.heap.size, 0, none⟩ = some (.int .i64 2) ∧ w'.cell? ⟨w.heap.size, 1, none⟩ = some (.int .i64 0) ∧ w'.cell? ⟨w.heap.size, 2, none⟩ = some (.string s) ∧ w'.cell? ⟨w.heap.size, 3, none⟩ = some (.slice none 0 0))) :=
    Lib.hid fun w' h => ⟨h, (h.cell (p := ⟨w.heap.size, 0, none⟩) lw).trans f0, (h.cell (p := ⟨w.heap.size, 1, none⟩) lw).trans f1, (h.cell (p := ⟨w.heap.size, 2, none⟩) lw).trans f2, (h.cell (p := ⟨w.heap.size, 3, none⟩) lw).trans f3⟩
  have HRF := Lib.hid (Below.refl W.heap.size W)
  clear f0 f1 f2 f3 hb hW
  have HW : Hid (IntKind.u64.wrap (s.size : Int) = (s.size : Int)) := Lib.hid (by rw [IntKind.wrap_u64]; omega)
  go_region_held3 (fun w' => (Below W.heap.size W w' ∧ w'.cell? ⟨w.heap.size, 0, none⟩ = some (.int .i64 2) ∧ w'.cell? ⟨w.heap.size, 1, none⟩ = some (.int .i64 0) ∧ w'.cell? ⟨w.heap.size, 2, none⟩ = some (.string s) ∧ w'.cell? ⟨w.heap.size, 3, none⟩ = some (.slice none 0 0)))
    (first | (exact HALL.out _ HRF.out.drew) | assumption | (exact HALL.out _ (bel_al (And.left (by assumption)) _)) | (exact HALL.out _ (bel_trans (And.left (by assumption)) (by assumption))))
    (first
      | (go_at_call 80; rw [HW.out]; refine (sizeNumeral_any s.size _ (by omega)).mono ?_; rintro e u2 ⟨⟨k, rfl, hk⟩, rfl⟩))
  go_wp2_with fail
  go_ret
  have hw2 : IntKind.i64.wrap ((k : Int) + (s.size : Int)) = ((k + s.size : Nat) : Int) := by rw [IntWalk.i64_in _ (by omega)]; omega
  exact ⟨⟨k + s.size, congrArg (fun z => Ending.returned (Value.int IntKind.i64 z)) hw2, by omega⟩, HB.out.trans (Below.mono HRF.out.drew HB.out.size)⟩
end Go.Proofs.YtllcgehfmkmcdaaDoor
namespace Go.Proofs.YtllcgehfmkmcdaaDoor
open Go.RowKit
set_option linter.unusedVariables false
set_option linter.unusedSimpArgs false
attribute [local go_sem] idx_form1 idx_form2 idx_form3 fld_form10 fld_form11 fld_form12 fld_form20 fld_form21 fld_form22 fld_form30 fld_form31 fld_form32
set_option maxRecDepth 100000 in
set_option maxHeartbeats 2000000 in
theorem sizeValue_int (n : Int) (w : World) (hn : inR n) : Calls Tryd.prog 47 #[.agg #[.int .i64 1, .int .i64 n, .string ⟨#[]⟩, .slice none 0 0]] w fun e w' => (∃ k : Nat, e = .returned (.int .i64 k) ∧ k ≤ 11) ∧ Below w.heap.size w w' := by
  go_enter Tryd.func47, Tryd.ntmps47
  go_wp2_with fail
  obtain ⟨W, hW⟩ : ∃ W, W = w.alloc (.cells #[.int .i64 1, .int .i64 n, .string ⟨#[]⟩, .slice none 0 0] 54) := ⟨_, rfl⟩
  have hb : Below w.heap.size w W := by rw [hW]; exact bel_alloc1 w _
  have f0 : W.cell? ⟨w.heap.size, 0, none⟩ = some (.int .i64 1) := by rw [hW]; exact ((Blk.new w _ _).cell 0).trans rfl
  have f1 : W.cell? ⟨w.heap.size, 1, none⟩ = some (.int .i64 n) := by rw [hW]; exact ((Blk.new w _ _).cell 1).trans rfl
  have f2 : W.cell? ⟨w.heap.size, 2, none⟩ = some (.string ⟨#[]⟩) := by rw [hW]; exact ((Blk.new w _ _).cell 2).trans rfl
  have f3 : W.cell? ⟨w.heap.size, 3, none⟩ = some (.slice none 0 0) := by rw [hW]; exact ((Blk.new w _ _).cell 3).trans rfl
  have lw : w.heap.size < W.heap.size := by rw [hW]; simp
  rw [← hW]
  have HB := Lib.hid hb
  have HALL : Hid (∀ w', Below W.heap.size W w' → (Below W.heap.size W w' ∧ w'.cell? ⟨w.heap.size, 0, none⟩ = some (.int .i64 1) ∧ w'.cell? ⟨w.heap.size, 1, none⟩ = some (.int .i64 n) ∧ w'.cell? ⟨w.heap.size, 2, none⟩ = some (.string ⟨#[]⟩) ∧ w'.cell? ⟨w.heap.size, 3, none⟩ = some (.slice none 0 0))) :=
    Lib.hid fun w' h => ⟨h, (h.cell (p := ⟨w.heap.size, 0, none⟩) lw).trans f0, (h.cell (p := ⟨w.heap.size, 1, none⟩) lw).trans f1, (h.cell (p := ⟨w.heap.size, 2, none⟩) lw).trans f2, (h.cell (p := ⟨w.heap.size, 3, none⟩) lw).trans f3⟩
  have HRF := Lib.hid (Below.refl W.heap.size W)
  clear f0 f1 f2 f3 hb hW
  go_region_held3 (fun w' => (Below W.heap.size W w' ∧ w'.cell? ⟨w.heap.size, 0, none⟩ = some (.int .i64 1) ∧ w'.cell? ⟨w.heap.size, 1, none⟩ = some (.int .i64 n) ∧ w'.cell? ⟨w.heap.size, 2, none⟩ = some (.string ⟨#[]⟩) ∧ w'.cell? ⟨w.heap.size, 3, none⟩ = some (.slice none 0 0)))
    (first | (exact HALL.out _ HRF.out.drew) | assumption | (exact HALL.out _ (bel_al (And.left (by assumption)) _)) | (exact HALL.out _ (bel_trans (And.left (by assumption)) (by assumption))))
    (first
      | (go_at_call 56; refine (forms_lit _).mono ?_; rintro e u2 ⟨rfl, hbf⟩)
      | (go_at_call 68; refine (sizeInt_any n _ hn).mono ?_; rintro e u3 ⟨⟨k, rfl, hk⟩, hbc⟩))
  go_wp2_with fail
  go_ret
  have hw2 : IntKind.i64.wrap (1 + (k : Int)) = ((k + 1 : Nat) : Int) := by rw [IntWalk.i64_in _ (by omega)]; omega
  exact ⟨⟨k + 1, congrArg (fun z => Ending.returned (Value.int IntKind.i64 z)) hw2, by omega⟩, bel_trans HB.out (And.left (by assumption))⟩
set_option maxRecDepth 100000 in
set_option maxHeartbeats 2000000 in
theorem sizeValue_text (s : ByteArray) (w : World) (hs : s.size ≤ 1073741824) : Calls Tryd.prog 47 #[.agg #[.int .i64 2, .int .i64 0, .string s, .slice none 0 0]] w fun e w' => (∃ k : Nat, e = .returned (.int .i64 k) ∧ k ≤ 11 + s.size) ∧ Below w.heap.size w w' := by
  go_enter Tryd.func47, Tryd.ntmps47
  go_wp2_with fail
  obtain ⟨W, hW⟩ : ∃ W, W = w.alloc (.cells #[.int .i64 2, .int .i64 0, .string s, .slice none 0 0] 54) := ⟨_, rfl⟩
  have hb : Below w.heap.size w W := by rw [hW]; exact bel_alloc1 w _
  have f0 : W.cell? ⟨w.heap.size, 0, none⟩ = some (.int .i64 2) := by rw [hW]; exact ((Blk.new w _ _).cell 0).trans rfl
  have f1 : W.cell? ⟨w.heap.size, 1, none⟩ = some (.int .i64 0) := by rw [hW]; exact ((Blk.new w _ _).cell 1).trans rfl
  have f2 : W.cell? ⟨w.heap.size, 2, none⟩ = some (.string s) := by rw [hW]; exact ((Blk.new w _ _).cell 2).trans rfl
  have f3 : W.cell? ⟨w.heap.size, 3, none⟩ = some (.slice none 0 0) := by rw [hW]; exact ((Blk.new w _ _).cell 3).trans rfl
  have lw : w.heap.size < W.heap.size := by rw [hW]; simp
  rw [← hW]
  have HB := Lib.hid hb
  have HALL : Hid (∀ w', Below W.heap.size W w' → (Below W.heap.size W w' ∧ w'.cell? ⟨w.heap.size, 0, none⟩ = some (.int .i64 2) ∧ w'.cell? ⟨w.heap.size, 1, none⟩ = some (.int .i64 0) ∧ w'.cell? ⟨w.heap.size, 2, none⟩ = some (.string s) ∧ w'.cell? ⟨w.heap.size, 3, none⟩ = some (.slice none 0 0))) :=
    Lib.hid fun w' h => ⟨h, (h.cell (p := ⟨w.heap.size, 0, none⟩) lw).trans f0, (h.cell (p := ⟨w.heap.size, 1, none⟩) lw).trans f1, (h.cell (p := ⟨w.heap.size, 2, none⟩) lw).trans f2, (h.cell (p := ⟨w.heap.size, 3, none⟩) lw).trans f3⟩
  have HRF := Lib.hid (Below.refl W.heap.size W)
  clear f0 f1 f2 f3 hb hW
  go_region_held3 (fun w' => (Below W.heap.size W w' ∧ w'.cell? ⟨w.heap.size, 0, none⟩ = some (.int .i64 2) ∧ w'.cell? ⟨w.heap.size, 1, none⟩ = some (.int .i64 0) ∧ w'.cell? ⟨w.heap.size, 2, none⟩ = some (.string s) ∧ w'.cell? ⟨w.heap.size, 3, none⟩ = some (.slice none 0 0)))
    (first | (exact HALL.out _ HRF.out.drew) | assumption | (exact HALL.out _ (bel_al (And.left (by assumption)) _)) | (exact HALL.out _ (bel_trans (And.left (by assumption)) (by assumption))))
    (first
      | (go_at_call 56; refine (forms_lit _).mono ?_; rintro e u2 ⟨rfl, hbf⟩)
      | (go_at_call 72; refine (sizeText_any s _ hs).mono ?_; rintro e u3 ⟨⟨k, rfl, hk⟩, hbc⟩))
  go_wp2_with fail
  go_ret
  have hw2 : IntKind.i64.wrap (1 + (k : Int)) = ((k + 1 : Nat) : Int) := by rw [IntWalk.i64_in _ (by omega)]; omega
  exact ⟨⟨k + 1, congrArg (fun z => Ending.returned (Value.int IntKind.i64 z)) hw2, by omega⟩, bel_trans HB.out (And.left (by assumption))⟩
theorem sizeValue_atom (a : Atom) (ha : a.ok) (w : World) : Calls Tryd.prog 47 #[.agg #[.int .i64 a.kind, .int .i64 a.num, .string a.str, .slice none 0 0]] w fun e w' => (∃ k : Nat, e = .returned (.int .i64 k) ∧ k ≤ a.sz) ∧ Below w.heap.size w w' := by
  cases a with
  | int n =>
    exact (sizeValue_int n w ha).mono fun e w' ⟨⟨k, h, hk⟩, hb⟩ => ⟨⟨k, h, by simp only [Atom.sz]; omega⟩, hb⟩
  | text s =>
    exact (sizeValue_text (strB s) w (by rw [strB_size]; have := ha.1; omega)).mono fun e w' ⟨⟨k, h, hk⟩, hb⟩ => ⟨⟨k, h, by rw [strB_size] at hk; simp only [Atom.sz]; omega⟩, hb⟩
set_option maxRecDepth 100000 in
set_option maxHeartbeats 2000000 in
theorem sizeList_any (l : List Atom) (b o n cap : Nat) (w : World) (hn : Hid (n = l.length)) (hm : n ≤ 1000000) (hok : Hid (∀ a ∈ l, a.ok)) (hb : b < w.heap.size) (hl : Hid (AtomsAt w b o l)) (hx : lenA l ≤ 2000000000) :
    Calls Tryd.prog 76 #[.agg #[.int .i64 3, .int .i64 0, .string ⟨#[]⟩, .slice (some ⟨b, o, none⟩) n cap]] w fun e w' => (∃ k : Nat, e = .returned (.int .i64 k) ∧ k ≤ 10 + lenA l) ∧ Below w.heap.size w w' := by
  go_enter Tryd.func76, Tryd.ntmps76
  go_wp2_with (go_at_call 80; refine (sizeNumeral_any n _ (by omega)).mono ?_; rintro e u1 ⟨⟨k0, rfl, hk0⟩, rfl⟩)
  go_loopw [3, 14] (fun x i wr => ∃ k s : Nat, k ≤ n ∧ i = .int .i64 k ∧ x = .int .i64 s ∧ s ≤ 10 + lenA (l.take k) ∧ Hid (Below w.heap.size w wr)) (fun _ i _ => n - (intOf i).toNat)
  case atStart => exact ⟨0, k0, by omega, rfl, rfl, by omega, Lib.hid (bel_alloc1 w _)⟩
  case round =>
    obtain ⟨k, s, hk, rfl, rfl, hs, HB⟩ := hrel
    have HSB := Lib.hid hs
    clear hs
    by_cases hlt : k < n
    · have hbr : b < wr.heap.size := Nat.lt_of_lt_of_le hb HB.out.size
      have hkl : k < l.length := by rw [← hn.out]; exact hlt
      obtain ⟨c0, c1, c2, c3⟩ := hl.out.below HB.out hb k hkl
      have hsz := lenA_take hkl
      have hat := hok.out _ (getD_mem' hkl)
      obtain ⟨at', hx'⟩ : ∃ x, l.getD k (.int 0) = x := ⟨_, rfl⟩
      rw [hx'] at c0 c1 c2 hsz hat
      have HX := Lib.hid hx'; have HS := Lib.hid hsz; have HA := Lib.hid hat
      have hs1 : s ≤ 2000000010 := by have := HSB.out; omega
      clear hx' hsz hat
      go_wp2_with (go_at_call 47; refine (sizeValue_atom at' HA.out _).mono ?_; rintro e u1 ⟨⟨k1, rfl, hk1⟩, hbw⟩; have hk2 : k1 ≤ 2000000010 := by (have := HS.out; omega))
      refine ⟨⟨k + 1, s + k1, by omega, by simp, by simp, by have := HSB.out; have := HS.out; omega, Lib.hid (bel_trans HB.out (bel_trans (bel_alloc1 wr _) hbw))⟩, ?_⟩
      simp only [intOf]; omega
    · obtain rfl : k = n := by omega
      go_wp2_with fail
      go_ret
      refine ⟨⟨s, rfl, ?_⟩, HB.out⟩
      have := HSB.out
      rwa [List.take_of_length_le (by have := hn.out; omega)] at this
set_option maxRecDepth 100000 in
set_option maxHeartbeats 2000000 in
theorem sizeValue_list (l : List Atom) (b o n cap : Nat) (w : World) (hn : Hid (n = l.length)) (hm : n ≤ 1000000) (hok : Hid (∀ a ∈ l, a.ok)) (hbw : b < w.heap.size) (hl : Hid (AtomsAt w b o l)) (hx : lenA l ≤ 2000000000) : Calls Tryd.prog 47 #[.agg #[.int .i64 3, .int .i64 0, .string ⟨#[]⟩, .slice (some ⟨b, o, none⟩) n cap]] w fun e w' => (∃ k : Nat, e = .returned (.int .i64 k) ∧ k ≤ 11 + lenA l) ∧ Below w.heap.size w w' := by
  go_enter Tryd.func47, Tryd.ntmps47
  go_wp2_with fail
  obtain ⟨W, hW⟩ : ∃ W, W = w.alloc (.cells #[.int .i64 3, .int .i64 0, .string ⟨#[]⟩, .slice (some ⟨b, o, none⟩) n cap] 54) := ⟨_, rfl⟩
  have hb : Below w.heap.size w W := by rw [hW]; exact bel_alloc1 w _
  have f0 : W.cell? ⟨w.heap.size, 0, none⟩ = some (.int .i64 3) := by rw [hW]; exact ((Blk.new w _ _).cell 0).trans rfl
  have f1 : W.cell? ⟨w.heap.size, 1, none⟩ = some (.int .i64 0) := by rw [hW]; exact ((Blk.new w _ _).cell 1).trans rfl
  have f2 : W.cell? ⟨w.heap.size, 2, none⟩ = some (.string ⟨#[]⟩) := by rw [hW]; exact ((Blk.new w _ _).cell 2).trans rfl
  have f3 : W.cell? ⟨w.heap.size, 3, none⟩ = some (.slice (some ⟨b, o, none⟩) n cap) := by rw [hW]; exact ((Blk.new w _ _).cell 3).trans rfl
  have lw : w.heap.size < W.heap.size := by rw [hW]; simp
  rw [← hW]
  have HB := Lib.hid hb
  have HALL : Hid (∀ w', Below W.heap.size W w' → (Below W.heap.size W w' ∧ w'.cell? ⟨w.heap.size, 0, none⟩ = some (.int .i64 3) ∧ w'.cell? ⟨w.heap.size, 1, none⟩ = some (.int .i64 0) ∧ w'.cell? ⟨w.heap.size, 2, none⟩ = some (.string ⟨#[]⟩) ∧ w'.cell? ⟨w.heap.size, 3, none⟩ = some (.slice (some ⟨b, o, none⟩) n cap))) :=
    Lib.hid fun w' h => ⟨h, (h.cell (p := ⟨w.heap.size, 0, none⟩) lw).trans f0, (h.cell (p := ⟨w.heap.size, 1, none⟩) lw).trans f1, (h.cell (p := ⟨w.heap.size, 2, none⟩) lw).trans f2, (h.cell (p := ⟨w.heap.size, 3, none⟩) lw).trans f3⟩
  have HRF := Lib.hid (Below.refl W.heap.size W)
  have HBL : Hid (∀ w', Below W.heap.size W w' → b < w'.heap.size) := Lib.hid fun w' h => Nat.lt_of_lt_of_le hbw (Nat.le_trans HB.out.size h.size)
  have HZL : Hid (∀ w', Below W.heap.size W w' → Hid (AtomsAt w' b o l)) := Lib.hid fun w' h => Lib.hid (hl.out.below (bel_trans HB.out h) hbw)
  clear f0 f1 f2 f3 hb hW
  go_region_held3 (fun w' => (Below W.heap.size W w' ∧ w'.cell? ⟨w.heap.size, 0, none⟩ = some (.int .i64 3) ∧ w'.cell? ⟨w.heap.size, 1, none⟩ = some (.int .i64 0) ∧ w'.cell? ⟨w.heap.size, 2, none⟩ = some (.string ⟨#[]⟩) ∧ w'.cell? ⟨w.heap.size, 3, none⟩ = some (.slice (some ⟨b, o, none⟩) n cap)))
    (first | (exact HALL.out _ HRF.out.drew) | assumption | (exact HALL.out _ (bel_al (And.left (by assumption)) _)) | (exact HALL.out _ (bel_trans (And.left (by assumption)) (by assumption))))
    (first
      | (go_at_call 56; refine (forms_lit _).mono ?_; rintro e u2 ⟨rfl, hbf⟩)
      | (go_at_call 76; refine (sizeList_any l b o n cap _ hn hm hok (HBL.out _ (And.left (by assumption))) (HZL.out _ (And.left (by assumption))) hx).mono ?_; rintro e u3 ⟨⟨k, rfl, hk⟩, hbc⟩))
  go_wp2_with fail
  go_ret
  have hw2 : IntKind.i64.wrap (1 + (k : Int)) = ((k + 1 : Nat) : Int) := by rw [IntWalk.i64_in _ (by omega)]; omega
  exact ⟨⟨k + 1, congrArg (fun z => Ending.returned (Value.int IntKind.i64 z)) hw2, by omega⟩, bel_trans HB.out (And.left (by assumption))⟩
end Go.Proofs.YtllcgehfmkmcdaaDoor
namespace Go.Proofs.YtllcgehfmkmcdaaDoor
open Go.RowKit
set_option linter.unusedVariables false
set_option linter.unusedSimpArgs false
attribute [local go_sem] idx_form1 idx_form2 idx_form3 fld_form10 fld_form11 fld_form12 fld_form20 fld_form21 fld_form22 fld_form30 fld_form31 fld_form32
set_option maxRecDepth 100000 in
set_option maxHeartbeats 2000000 in
theorem writeValue_list (l : List Atom) (b o n cap : Nat) (B : Nat) (v : Value) (xs : List Int) (w : World) (ho : Hid (Own8 w B v xs)) (hn : Hid (n = l.length)) (hm : n ≤ 1000000) (hok : Hid (∀ a ∈ l, a.ok)) (hb : b < B) (hl : Hid (AtomsAt w b o l)) (hx : Hid (xs.length + 40 + lenA l ≤ 2000000000)) (hB : B ≤ w.heap.size) :
    Calls Tryd.prog 46 #[v, .agg #[.int .i64 3, .int .i64 0, .string ⟨#[]⟩, .slice (some ⟨b, o, none⟩) n cap]] w fun e w' => ∃ v', e = .returned v' ∧ Own8 w' B v' (xs ++ (3 :: (numL n ++ (l.map Atom.enc).flatten))) ∧ Kp B w w' := by
  go_enter Tryd.func46, Tryd.ntmps46
  go_wp2_with fail
  refine wp_region_any (by kernel_rfl) ?_
  change wpAny _ _ _ _ _ _ _ (World.drew _)
  generalize hWD : World.drew _ = W
  have BX := Lib.hid (show Blk W w.heap.size #[.int .i64 3, .int .i64 0, .string ⟨#[]⟩, .slice (some ⟨b, o, none⟩) n cap] 54 by rw [← hWD]; exact Blk.new w _ _)
  have EW := Lib.hid (show Below w.heap.size w W by rw [← hWD]; exact (bel_alloc1 w _).drew)
  clear hWD
  have HO := Lib.hid (own8_below ho.out EW.out)
  have KW := Lib.hid (kp_of_bel hB EW.out)
  have hBW : B ≤ W.heap.size := Nat.le_trans hB EW.out.size
  have hCD : ∀ u, Ext W u → Blk u w.heap.size #[.int .i64 3, .int .i64 0, .string ⟨#[]⟩, .slice (some ⟨b, o, none⟩) n cap] 54 := fun u hu => BX.out.below hu BX.out.lt
  refine region_U (D := fun u => Blk u w.heap.size #[.int .i64 3, .int .i64 0, .string ⟨#[]⟩, .slice (some ⟨b, o, none⟩) n cap] 54) (Ext W) [12, 13] (Ext.refl W) ?_
  refine anyU_takeD (i := 0) (v := .agg #[.nilFunc, .nilFunc, .nilFunc, .nilFunc, .func (.func 66) #[] #[], .func (.func 67) #[] #[], .func (.func 68) #[] #[], .func (.func 69) #[] #[], .func (.func 70) #[] #[], .func (.func 71) #[] #[], .func (.func 72) #[] #[], .func (.func 73) #[] #[], .func (.func 74) #[] #[], .func (.func 75) #[] #[], .func (.func 76) #[] #[], .func (.func 77) #[] #[]]) 5 rfl rfl (by kernel_rfl) (by kernel_rfl) (by kernel_rfl) (fun _ _ _ h => h) (by kernel_rfl) (Ext.stable _) hCD (yieldsU_call rfl 56 _ _ rfl #[] (by simp [Act.eval, Act.put]) (fun u => by go_simp) (fun u hu => forms_lit u)) ?_
  refine anyU_takeD (i := 1) (v := .pointer (some ⟨w.heap.size, 0, none⟩)) 6 rfl rfl (by kernel_rfl) (by kernel_rfl) (by kernel_rfl) (fun _ _ _ h => h) (by kernel_rfl) (Ext.stable _) hCD (yieldsU_val rfl (fun u hu => by go_simp)) ?_
  refine anyU_takeD (i := 2) (v := .int .i64 3) 7 rfl rfl (by kernel_rfl) (by kernel_rfl) (by kernel_rfl) (fun _ _ _ h => h) (by kernel_rfl) (Ext.stable _) hCD (yieldsU_val rfl (fun u hu => by have c := hu.cell 0; go_simp)) ?_
  refine anyU_takeD (i := 3) (v := .agg #[.func (.func 74) #[] #[], .func (.func 75) #[] #[], .func (.func 76) #[] #[], .func (.func 77) #[] #[]]) 8 rfl rfl (by kernel_rfl) (by kernel_rfl) (by kernel_rfl) (fun _ _ _ h => h) (by kernel_rfl) (Ext.stable _) hCD (yieldsU_val rfl (fun u hu => by go_simp)) ?_
  refine anyU_takeD (i := 4) (v := .func (.func 75) #[] #[]) 9 rfl rfl (by kernel_rfl) (by kernel_rfl) (by kernel_rfl) (fun _ _ _ h => h) (by kernel_rfl) (Ext.stable _) hCD (yieldsU_val rfl (fun u hu => by go_simp)) ?_
  simp only [Act.put, List.setIfInBounds_toArray, List.set_cons_succ, List.set_cons_zero]
  refine anyU_takeD (i := 5) (v := v) 10 rfl rfl (by kernel_rfl) (by kernel_rfl) (by kernel_rfl) (fun _ _ _ h => h) (by kernel_rfl) (Ext.stable _) hCD (yieldsU_val rfl (fun u hu => by rfl)) ?_
  refine anyU_takeD (i := 6) (v := .pointer (some ⟨w.heap.size, 0, none⟩)) 11 rfl rfl (by kernel_rfl) (by kernel_rfl) (by kernel_rfl) (fun _ _ _ h => h) (by kernel_rfl) (Ext.stable _) hCD (yieldsU_val rfl (fun u hu => by go_simp)) ?_
  refine anyU_takeD (i := 7) (v := .int .i64 3) 12 rfl rfl (by kernel_rfl) (by kernel_rfl) (by kernel_rfl) (fun _ _ _ h => h) (by kernel_rfl) (Ext.stable _) hCD (yieldsU_val rfl (fun u hu => by have c := hu.cell 0; go_simp)) ?_
  refine anyU_takeD (i := 8) (v := .int .u8 3) 13 rfl rfl (by kernel_rfl) (by kernel_rfl) (by kernel_rfl) (fun _ _ _ h => h) (by kernel_rfl) (Ext.stable _) hCD (yieldsU_val rfl (fun u hu => by go_simp; rfl)) ?_
  refine anyU_takeD (i := 11) (v := .agg #[.int .i64 3, .int .i64 0, .string ⟨#[]⟩, .slice (some ⟨b, o, none⟩) n cap]) 16 rfl rfl (by kernel_rfl) (by kernel_rfl) (by kernel_rfl) (fun _ _ _ h => h) (by kernel_rfl) (Ext.stable _) hCD (yieldsU_val rfl (fun u hu => by have c0 := hu.cell 0; have c1 := hu.cell 1; have c2 := hu.cell 2; have c3 := hu.cell 3; go_simp)) ?_
  simp only [Act.put, List.setIfInBounds_toArray, List.set_cons_succ, List.set_cons_zero]
  refine anyU_one 9 3 _ rfl rfl (by kernel_rfl) ?_
  intro u hu
  go_wp2_with fail
  change ∃ C' : World → Prop, _ ∧ _ ∧ _ ∧ anyU _ _ _ _ _ _ 3 _ _ _
  have hb1 : Below u.heap.size u (u.alloc (.cells #[.int .u8 3] 5)) := bel_alloc1 u _
  have F1 := Lib.hid (show Wr B w v xs (u.alloc (.cells #[.int .u8 3] 5)) from Wr.stable hB _ _ ⟨own8_below HO.out hu, KW.out.bel hB hu⟩ hb1)
  have Z1 := Lib.hid (oneB u 3)
  have X1 := Lib.hid (show Blk (u.alloc (.cells #[.int .u8 3] 5)) w.heap.size #[.int .i64 3, .int .i64 0, .string ⟨#[]⟩, .slice (some ⟨b, o, none⟩) n cap] 54 from (hCD u hu).alloc _)
  have lt1 : u.heap.size < (u.alloc (.cells #[.int .u8 3] 5)).heap.size := by simp
  have le1 : B ≤ u.heap.size := Nat.le_trans hBW hu.size
  generalize World.alloc u _ = u1 at F1 Z1 X1 lt1 ⊢
  generalize u.heap.size = bb at Z1 lt1 le1 ⊢
  clear hu hb1
  refine anchorF (fun x => Wr B w v xs x ∧ (bb < x.heap.size ∧ BytesAt x bb 0 [3]) ∧ Blk x w.heap.size #[.int .i64 3, .int .i64 0, .string ⟨#[]⟩, .slice (some ⟨b, o, none⟩) n cap] 54) (fun x hx => hx.2.2) ((Wr.stable hB).and (Stable.and (fun x y h k => ⟨Nat.lt_of_lt_of_le h.1 k.size, h.2.below k h.1⟩) (fun x y h k => h.below k h.lt))) ⟨F1.out, ⟨lt1, Z1.out⟩, X1.out⟩ ?_
  (try simp only [Act.put])
  refine anyU_one 10 2 _ rfl rfl (by kernel_rfl) ?_
  intro u2 hu2
  refine app8 rfl (.tmp 10) (.tmp 14) rfl B v xs rfl hu2.1.1 (some ⟨bb, 0, none⟩) 1 1 [3] rfl ⟨rfl, .inr ⟨bb, 0, rfl, hu2.2.1.1, hu2.2.1.2⟩⟩ (by have := hx.out; simp; omega) (Nat.le_trans hB hu2.1.2.1.size) ?_
  intro v2 u3 o3 g3
  have F3 := Lib.hid (show Wr B w v2 (xs ++ [3]) u3 from ⟨o3, hu2.1.2.grown hu2.1.1 g3 (Nat.le_trans hB hu2.1.2.1.size)⟩)
  have X3 := Lib.hid (show Blk u3 w.heap.size #[.int .i64 3, .int .i64 0, .string ⟨#[]⟩, .slice (some ⟨b, o, none⟩) n cap] 54 from ((Kp.refl (B := B) (w := u2)).grown hu2.1.1 g3 (Nat.le_trans hB hu2.1.2.1.size)).2 _ _ _ (by decide) hu2.2.2)
  clear o3 g3 hu2
  change ∃ C' : World → Prop, _ ∧ _ ∧ _ ∧ anyU _ _ _ _ _ _ 2 _ _ _
  refine anchorF (fun x => Wr B w v2 (xs ++ [3]) x ∧ Blk x w.heap.size #[.int .i64 3, .int .i64 0, .string ⟨#[]⟩, .slice (some ⟨b, o, none⟩) n cap] 54) (fun x hx => hx.2) ((Wr.stable hB).and (fun x y h k => h.below k h.lt)) ⟨F3.out, X3.out⟩ ?_
  (try simp only [Act.put])
  refine anyU_tail 12 [13] rfl rfl (by decide) (by kernel_rfl) ?_
  intro u4 hu4
  simp only [Act.put, List.filterMap_cons, List.filterMap_nil, List.getElem?_cons_succ, List.getElem?_cons_zero]
  go_wp2_with fail
  refine (writeList_own l b o n cap B v2 (xs ++ [3]) u4 hn hm hok hb (Lib.hid (hl.out.below hu4.1.2.1 hb)) (Lib.hid hu4.1.1) (Lib.hid (by have := hx.out; simp; omega)) (Nat.le_trans hB hu4.1.2.1.size)).mono ?_
  rintro e u5 ⟨v5, rfl, o5, k5⟩
  have O5 := Lib.hid o5
  have K5 := Lib.hid (hu4.1.2.trans k5)
  clear o5 k5 hu4
  go_wp2_with fail
  go_ret
  exact ⟨v5, rfl, by have := O5.out; rwa [List.append_assoc] at this, K5.out⟩
theorem own8_mono {w : World} {B B' : Nat} {v : Value} {zs : List Int} (h : Own8 w B v zs) (k : B' ≤ B) : Own8 w B' v zs := by
  obtain ⟨h1, h2 | ⟨g, cap, cur, e1, e2, e3⟩⟩ := h
  · exact ⟨h1, .inl h2⟩
  · exact ⟨h1, .inr ⟨g, cap, cur, e1, Nat.le_trans k e2, e3⟩⟩
/-- append and the like: make([]byte, 0, k) -/
theorem make8 {ops : Array Oper} {rest : List Oper} {o : Oper} {a : Act} {w : World} {Q : Exit → Act → World → Prop} (hg : o.guard = none) (l c : Operand) (hop : o.op = Op.makeSlice 23 l c) (B : Nat) (n : Nat)
    (hl : a.eval l = .int .i64 0) (hc : a.eval c = .int .i64 (n : Int)) (hn : n ≤ 3000000000) (hB : B ≤ w.heap.size)
    (hK : ∀ w', Own8 w' B (.slice (some ⟨w.heap.size, 0, none⟩) 0 n) [] → Below w.heap.size w w' → wpList Tryd.prog ops Q rest (a.put o.dst (.slice (some ⟨w.heap.size, 0, none⟩) 0 n)) w') : wpList Tryd.prog ops Q (o :: rest) a w := by
  obtain ⟨i0, hi, hz0, hz1, hz2⟩ := info_parts info8
  refine wpList_make_own w hg l c 23 hop B 5 i0 (.int .u8 0) 1 Tryd.underlying23 hi hz0 hz1 .i64 .i64 (n : Int) n hl hc rfl (by rw [hz2]; omega) (by unfold maxLen; omega) hB ?_
  intro w' h1 h2
  exact hK w' h1 ⟨h2.os, h2.tape, h2.output, h2.size, fun i hi => h2.block i hi (by intro e; cases e)⟩
set_option maxRecDepth 100000 in
set_option maxHeartbeats 2000000 in
theorem encode_list (l : List Atom) (b o n cap : Nat) (w : World) (hn : Hid (n = l.length)) (hm : n ≤ 1000000) (hok : Hid (∀ a ∈ l, a.ok)) (hb : b < w.heap.size) (hl : Hid (AtomsAt w b o l)) (hx : Hid (60 + lenA l ≤ 2000000000)) :
    Calls Tryd.prog 35 #[.agg #[.int .i64 3, .int .i64 0, .string ⟨#[]⟩, .slice (some ⟨b, o, none⟩) n cap]] w fun e w' => ∃ v', e = .returned (.tuple #[v', .int .i64 0]) ∧ Own8 w' w.heap.size v' (encL l) ∧ Below w.heap.size w w' := by
  go_enter Tryd.func35, Tryd.ntmps35
  have HB0 := Lib.hid (bel_alloc1 w (.cells #[.int .i64 3, .int .i64 0, .string ⟨#[]⟩, .slice (some ⟨b, o, none⟩) n cap] 54))
  have V0 := Lib.hid (Blk.new w #[.int .i64 3, .int .i64 0, .string ⟨#[]⟩, .slice (some ⟨b, o, none⟩) n cap] 54)
  go_wp2_with (go_at_call 45; refine (check_list l b o n cap _ hn (by omega) (Nat.lt_of_lt_of_le hb HB0.out.size) (Lib.hid (hl.out.below HB0.out hb))).mono ?_; rintro e u1 ⟨rfl, hb1⟩)
  have V1 := Lib.hid (V0.out.below hb1 V0.out.lt)
  have HB1 := Lib.hid (bel_trans HB0.out hb1)
  clear V0 HB0 hb1
  refine wp_region_any (by kernel_rfl) ?_
  change wpAny _ _ _ _ _ _ _ (World.drew _)
  generalize hWD : World.drew _ = W
  have BX := Lib.hid (show Blk W w.heap.size #[.int .i64 3, .int .i64 0, .string ⟨#[]⟩, .slice (some ⟨b, o, none⟩) n cap] 54 by rw [← hWD]; exact V1.out)
  have EW := Lib.hid (show Below w.heap.size w W by rw [← hWD]; exact HB1.out.drew)
  clear hWD V1 HB1
  have hCD : ∀ u, Ext W u → Blk u w.heap.size #[.int .i64 3, .int .i64 0, .string ⟨#[]⟩, .slice (some ⟨b, o, none⟩) n cap] 54 := fun u hu => BX.out.below hu BX.out.lt
  have hbW : b < W.heap.size := Nat.lt_of_lt_of_le hb EW.out.size
  have hAW := Lib.hid (hl.out.below EW.out hb)
  refine region_U (D := fun u => Blk u w.heap.size #[.int .i64 3, .int .i64 0, .string ⟨#[]⟩, .slice (some ⟨b, o, none⟩) n cap] 54) (Ext W) [4, 5, 6] (Ext.refl W) ?_
  refine anyU_takeD (i := 0) (v := .agg #[.int .i64 3, .int .i64 0, .string ⟨#[]⟩, .slice (some ⟨b, o, none⟩) n cap]) 9 rfl rfl (by kernel_rfl) (by kernel_rfl) (by kernel_rfl) (fun _ _ _ h => h) (by kernel_rfl) (Ext.stable _) hCD (yieldsU_val rfl (fun u hu => by have c0 := hu.cell 0; have c1 := hu.cell 1; have c2 := hu.cell 2; have c3 := hu.cell 3; go_simp)) ?_
  refine anyU_takeD (i := 3) (v := .agg #[.int .i64 3, .int .i64 0, .string ⟨#[]⟩, .slice (some ⟨b, o, none⟩) n cap]) 12 rfl rfl (by kernel_rfl) (by kernel_rfl) (by kernel_rfl) (fun _ _ _ h => h) (by kernel_rfl) (Ext.stable _) hCD (yieldsU_val rfl (fun u hu => by have c0 := hu.cell 0; have c1 := hu.cell 1; have c2 := hu.cell 2; have c3 := hu.cell 3; go_simp)) ?_
  simp only [Act.put, List.setIfInBounds_toArray, List.set_cons_succ, List.set_cons_zero]
  refine anyU_one 1 4 _ rfl rfl (by kernel_rfl) ?_
  intro u hu
  go_wp2_with fail
  refine (sizeValue_list l b o n cap u hn hm hok (Nat.lt_of_lt_of_le hbW hu.size) (Lib.hid (hAW.out.below hu hbW)) (by have := hx.out; omega)).mono ?_
  rintro e u1 ⟨⟨k, rfl, hk⟩, hb1⟩
  have hkb : k ≤ 2000000000 := by have := hx.out; omega
  have E1 := Lib.hid (Ext.trans hu hb1)
  clear hb1 hu
  go_wp2_with fail
  change ∃ C' : World → Prop, _ ∧ _ ∧ _ ∧ anyU _ _ _ _ _ _ 4 _ _ _
  refine anchorF (Ext W) hCD (Ext.stable W) E1.out ?_
  (try simp only [Act.put])
  refine anyU_one 2 3 _ rfl rfl (by kernel_rfl) ?_
  intro u2 hu2
  refine make8 rfl (.const (.int .i64 0)) (.tmp 10) rfl u2.heap.size k rfl rfl (by omega) (Nat.le_refl _) ?_
  intro u3 o3 b3
  have O3 := Lib.hid o3
  have E3 := Lib.hid (Ext.trans hu2 b3)
  have hle : W.heap.size ≤ u2.heap.size := hu2.size
  have le3 : u2.heap.size ≤ u3.heap.size := b3.size
  clear o3 b3 hu2
  generalize u2.heap.size = bb at O3 hle le3 ⊢
  change ∃ C' : World → Prop, _ ∧ _ ∧ _ ∧ anyU _ _ _ _ _ _ 3 _ _ _
  refine anchorF (fun x => Wr bb u3 (.slice (some ⟨bb, 0, none⟩) 0 k) [] x ∧ Ext W x) (fun x hx => hCD x hx.2) ((Wr.stable le3).and (Ext.stable W)) ⟨⟨O3.out, Kp.refl⟩, E3.out⟩ ?_
  (try simp only [Act.put])
  refine anyU_tail 4 [5, 6] rfl rfl (by decide) (by kernel_rfl) ?_
  intro u4 hu4
  simp only [Act.put, List.filterMap_cons, List.filterMap_nil, List.getElem?_cons_succ, List.getElem?_cons_zero]
  go_wp2_with fail
  refine (writeValue_list l b o n cap bb (.slice (some ⟨bb, 0, none⟩) 0 k) [] u4 (Lib.hid hu4.1.1) hn hm hok (Nat.lt_of_lt_of_le hbW hle) (Lib.hid (hAW.out.below hu4.2 hbW)) (Lib.hid (by have := hx.out; simp; omega)) (Nat.le_trans le3 hu4.1.2.1.size)).mono ?_
  rintro e u5 ⟨v5, rfl, o5, k5⟩
  have hwb : w.heap.size ≤ bb := Nat.le_trans EW.out.size hle
  have O5 := Lib.hid (own8_mono o5 hwb)
  have K5 := Lib.hid (EW.out.trans ((Below.trans hu4.2 (k5.1.mono hle)).mono EW.out.size))
  clear o5 k5 hu4
  go_wp2_with fail
  go_ret2
  refine ⟨v5, rfl, ?_, K5.out⟩
  have h := O5.out
  rw [List.nil_append, hn.out] at h
  exact h
end Go.Proofs.YtllcgehfmkmcdaaDoor
