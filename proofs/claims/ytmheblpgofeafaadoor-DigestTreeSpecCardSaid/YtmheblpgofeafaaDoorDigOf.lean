/- The list of digests that bytes determine: digestsOf of the laws of layer 2. -/
import Derived.Test.YtmheblpgofeafaaDoorDigBuild
import Derived.Test.YtmheblpgofeafaaDoorRegC
import Derived.Lib.Hide
namespace Go.Proofs.YtmheblpgofeafaaDoor
open Go.RowKit
set_option linter.unusedVariables false
set_option linter.unusedSimpArgs false

def dgOf (bs : List Int) (i : Nat) : List Int := bs.getD i 0 % 4 :: ((i : Int) / 8) :: List.replicate 30 0
def dgs (bs : List Int) : Nat → List Int
  | 0 => []
  | k + 1 => dgs bs k ++ dgOf bs k
theorem dgOf_len (bs : List Int) (i : Nat) : (dgOf bs i).length = 32 := rfl
theorem dgs_len (bs : List Int) (k : Nat) : (dgs bs k).length = 32 * k := by
  induction k with
  | zero => rfl
  | succ k ih => simp only [dgs, List.length_append, ih, dgOf_len]; omega
theorem dgOf_rng (bs : List Int) (i : Nat) (hi : i < 24) : ∀ z ∈ dgOf bs i, 0 ≤ z ∧ z ≤ 255 := by
  intro z hz
  simp only [dgOf, List.mem_cons, List.mem_replicate] at hz
  rcases hz with rfl | rfl | ⟨_, rfl⟩ <;> omega
theorem dgs_rng (bs : List Int) (k : Nat) (hk : k ≤ 24) : ∀ z ∈ dgs bs k, 0 ≤ z ∧ z ≤ 255 := by
  induction k with
  | zero => intro z hz; cases hz
  | succ k ih =>
    intro z hz
    rcases List.mem_append.1 hz with h | h
    · exact ih (by omega) z h
    · exact dgOf_rng bs k (by omega) z h
theorem dgs_take (bs : List Int) : ∀ (n k : Nat), k ≤ n → (dgs bs n).take (32 * k) = dgs bs k
  | 0, k, h => by obtain rfl : k = 0 := by omega
                  rfl
  | n + 1, k, h => by
    rcases (by omega : k = n + 1 ∨ k ≤ n) with rfl | h1
    · rw [List.take_of_length_le]; rw [dgs_len]; omega
    · rw [dgs, List.take_append_of_le_length (by rw [dgs_len]; omega)]
      exact dgs_take bs n k h1

/-- digests that the walk has put one behind the other -/
def OwnD (w : World) (B : Nat) (v : Value) (n : Nat) (fs : List Int) : Prop := w.ownsRow B 26 32 v n (bv fs) ∧ v ≠ .slice none 0 0
theorem ownD_alloc {w : World} {B n : Nat} {v : Value} {zs : List Int} (h : OwnD w B v n zs) (o : Obj) : OwnD (w.alloc o) B v n zs := ⟨World.ownsRow.alloc h.1 o, h.2⟩
theorem ownD_below {w w' : World} {B n : Nat} {v : Value} {zs : List Int} (h : OwnD w B v n zs) (k : Below w.heap.size w w') : OwnD w' B v n zs := by
  refine ⟨World.ownsRow.kept (row := none) h.1 ⟨k.os, k.tape, k.output, k.size, fun i hi _ => k.block i hi⟩ ?_, h.2⟩
  cases hv : v.ownBlock with
  | none => exact .inl rfl
  | some b => exact .inr (by simp)
theorem ownD_src {w : World} {B n : Nat} {v : Value} {fs : List Int} (h : OwnD w B v n fs) : ∃ b cap, v = .slice (some ⟨b, 0, none⟩) n cap ∧ B ≤ b ∧ b < w.heap.size ∧ n ≤ cap ∧ cap ≤ maxLen ∧ BytesAt w b 0 fs := by
  obtain ⟨⟨h1, h2⟩, hne⟩ := h
  rcases h2 with ⟨rfl, h0⟩ | ⟨g, cap, cur, rfl, hBg, hg, hn, hm, hs, ht⟩
  · exact absurd rfl hne
  · refine ⟨g, cap, rfl, hBg, (Array.getElem?_eq_some_iff.1 hg).1, hn, hm, ?_⟩
    rw [bv_len] at h1
    intro j hj
    have h3 : (cur.toList.take (n * 32))[j]? = (bv fs)[j]? := by rw [ht]
    rw [List.getElem?_take, if_pos (by omega)] at h3
    simp only [World.cell?, hg, Nat.zero_add]
    have h4 : cur[j]? = some (.int .u8 (fs.getD j 0)) := by
      rw [← Array.getElem?_toList, h3, bv, List.getElem?_map, List.getElem?_eq_getElem hj, List.getD_eq_getElem?_getD, List.getElem?_eq_getElem hj]; rfl
    rw [h4]; rfl
theorem bel_grownD {w0 w w' : World} {B n : Nat} {v : Value} {zs : List Int} (k : Below B w0 w) (ho : OwnD w B v n zs) (hg : w.grownBy w' v.ownBlock) (hB : B ≤ w.heap.size) : Below B w0 w' :=
  k.trans ⟨hg.os, hg.tape, hg.output, hg.size, fun i hi => hg.block i (by omega) (by intro e; have := (World.ownsRow.lt ho.1) i e.symm; omega)⟩
theorem infoD : (Tryd.prog.info? 26).map (fun i => (i.zero, i.size, i.bytes)) = some (some (.agg (bv (List.replicate 32 0)).toArray), 32, 32) := by kernel_rfl
/-- append of one digest, which lies whole somewhere else -/
theorem appD {ops : Array Oper} {rest : List Oper} {o : Oper} {a : Act} {w : World} {Q : Exit → Act → World → Prop} (hgd : o.guard = none) (s x : Operand)
    (ho : o.op = .call { callee := .builtin .append, args := #[s, x], argTypes := #[30, 30] }) (B : Nat) (v : Value) (n : Nat) (fs : List Int) (hs : a.eval s = v) (hown : OwnD w B v n fs)
    (b off m c : Nat) (zs : List Int) (hx : a.eval x = .slice (some ⟨b, off, none⟩) m c) (hzl : zs.length = 32 * m) (hz : BytesAt w b off zs) (hlen : n + m ≤ 1000000000) (hB : B ≤ w.heap.size)
    (h : ∀ v' w', OwnD w' B v' (n + m) (fs ++ zs) → w.grownBy w' v.ownBlock → wpList Tryd.prog ops Q rest (a.put o.dst v') w') : wpList Tryd.prog ops Q (o :: rest) a w := by
  obtain ⟨i0, hi, hz0, hz1, hz2⟩ := info_parts infoD
  refine wpList_append_own _ hgd s x 30 ho B 26 i0 _ 32 32 Tryd.underlying30 hi hz0 hz1 hz2 (by simp [Value.cells, bv]) (by decide) v n (bv fs) hs hown.1 ⟨b, off, none⟩ m c (bv zs) hx (by rw [bv_len]; omega) ?_ (bv_one zs) (by unfold maxLen; omega) (by omega) hB ?_
  · intro j u hj
    have hj' : j < zs.length := by
      have := (List.getElem?_eq_some_iff.1 hj).1
      rwa [bv_len] at this
    rw [Addr.add_mid, hz j hj']
    have h2 := bv_get zs j hj'
    rw [List.getElem?_toArray, hj] at h2
    exact h2.symm
  · intro v' w' h1 h2 h3
    refine h v' w' ⟨by rw [bv, List.map_append]; exact h1, fun e => hown.2 ?_⟩ h2
    exact (h3.1 e).1

def IsList (w0 : World) (n : Nat) (fs : List Int) (e : Ending) (w : World) : Prop :=
  ∃ b cap, e = .returned (.slice (some ⟨b, 0, none⟩) n cap) ∧ w0.heap.size ≤ b ∧ b < w.heap.size ∧ n ≤ cap ∧ cap ≤ maxLen ∧ BytesAt w b 0 fs ∧ Below w0.heap.size w0 w
theorem isList_of {w0 w : World} {v : Value} {n : Nat} {fs : List Int} (h : OwnD w w0.heap.size v n fs) (hb : Below w0.heap.size w0 w) : IsList w0 n fs (.returned v) w := by
  obtain ⟨b, cap, rfl, h1, h2, h3, h4, h5⟩ := ownD_src h
  exact ⟨b, cap, rfl, h1, h2, h3, h4, h5, hb⟩
theorem dg_rep (a b : Int) : (#[.int .u8 a, .int .u8 b, .int .u8 0, .int .u8 0, .int .u8 0, .int .u8 0, .int .u8 0, .int .u8 0, .int .u8 0, .int .u8 0, .int .u8 0, .int .u8 0, .int .u8 0, .int .u8 0, .int .u8 0, .int .u8 0, .int .u8 0, .int .u8 0, .int .u8 0, .int .u8 0, .int .u8 0, .int .u8 0, .int .u8 0, .int .u8 0, .int .u8 0, .int .u8 0, .int .u8 0, .int .u8 0, .int .u8 0, .int .u8 0, .int .u8 0, .int .u8 0] : Array Value) = (bv (a :: b :: List.replicate 30 0)).toArray := rfl

set_option maxRecDepth 100000 in
set_option maxHeartbeats 2000000 in
theorem digestsOf_any (p : Option Addr) (m cap : Nat) (bs : List Int) (w : World) (hz : Hid (SrcW w p m cap bs)) (hr : Hid (∀ z ∈ bs, 0 ≤ z ∧ z ≤ 255)) (hm : m ≤ 9223372036854775807) :
    Calls Tryd.prog 18 #[.slice p m cap] w fun e w' => IsList w (min m 24) (dgs bs (min m 24)) e w' := by
  go_enter Tryd.func18, Tryd.ntmps18
  go_wp2_with fail
  generalize hW : World.alloc _ _ = W1
  have O1 := Lib.hid (show OwnD W1 w.heap.size (.slice (some ⟨w.heap.size, 0, none⟩) 0 0) 0 (dgs bs 0) by rw [← hW]; exact ⟨World.ownsRow_made w #[] 0 (Nat.le_refl _) (by decide) rfl, by simp⟩)
  have B1 := Lib.hid (show Below w.heap.size w W1 by rw [← hW]; exact bel_alloc1 w _)
  clear hW
  go_loopw [3, 4] (fun l i wr => ∃ (k : Nat) (v : Value), k ≤ min m 24 ∧ i = .int .i64 k ∧ v = l ∧ Hid (OwnD wr w.heap.size v k (dgs bs k)) ∧ Hid (Below w.heap.size w wr)) (fun _ i _ => 24 - (intOf i).toNat)
  case atStart => exact ⟨0, _, by omega, rfl, rfl, O1, B1⟩
  case round =>
    obtain ⟨k, v, hk, rfl, rfl, HO, HB⟩ := hrel
    clear O1 B1
    by_cases hlt : k < min m 24
    · have hk1 : k < m := by omega
      have hk2 : k < 24 := by omega
      have hlen := hz.out.len
      obtain ⟨b, off, rfl, hb, hc⟩ : ∃ b off, p = some ⟨b, off, none⟩ ∧ b < w.heap.size ∧ BytesAt w b off bs := by
        rcases hz.out with ⟨_, ⟨_, h0, _⟩ | ⟨b, off, h1, h2, h3⟩⟩ | ⟨_, h0, _⟩
        · omega
        · exact ⟨b, off, h1, h2, h3⟩
        · omega
      obtain ⟨x, hx⟩ : ∃ x, bs.getD k 0 = x := ⟨_, rfl⟩
      have hcell : wr.cell? ⟨b, off + k, none⟩ = some (.int .u8 x) := by rw [(hc.below HB.out hb) k (by omega), hx]
      have hx0 : 0 ≤ x ∧ x ≤ 255 := by rw [← hx]; exact getD_rng hr.out k
      obtain ⟨x0, x1⟩ := hx0
      have HX : Hid (dgOf bs k = (x % 4) :: ((k : Int) / 8) :: List.replicate 30 0) := Lib.hid (by rw [dgOf, hx])
      clear hx hc hlen
      go_wp2_with (at_builtin; refine appD rfl (.tmp 16) (.tmp 26) rfl w.heap.size v k (dgs bs k) rfl ?g1 wr.heap.size 0 1 1 (x % 4 :: (k : Int) / 8 :: List.replicate 30 0) rfl rfl ?g3 ?g4 ?g5 ?_)
      case g1 => exact ownD_alloc HO.out _
      case g3 => exact bytes_run (show Blk _ wr.heap.size (bv (x % 4 :: (k : Int) / 8 :: List.replicate 30 0)).toArray 26 from Blk.new wr _ _)
      case g4 => omega
      case g5 => have := HB.out.size; simp; omega
      intro v' w1 ho1 hg1
      have HO1 := Lib.hid (show OwnD w1 w.heap.size v' (k + 1) (dgs bs (k + 1)) by rw [dgs, HX.out]; exact ho1)
      have HB1 := Lib.hid (bel_grownD (HB.out.alloc HB.out.size _) (ownD_alloc HO.out _) hg1 (by have := HB.out.size; simp; omega))
      clear ho1 hg1 HO HB hcell
      go_wp2_with fail
      go_roundw
      case rel => exact ⟨k + 1, v', by omega, by go_num, rfl, HO1, HB1⟩
      case measure => simp [intOf]; omega
    · have hkm : k = min m 24 := by omega
      by_cases hk1 : k < m
      all_goals
        go_wp2_with fail
        go_ret
        rw [← hkm]
        exact isList_of HO.out HB.out
end Go.Proofs.YtmheblpgofeafaaDoor
