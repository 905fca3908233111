/- For every list of digests and every index, Tree, Path and Climb are what the specification says. No condition. -/
import Derived.Test.YtmheblpgofeafaaDoorDigAppX
import Derived.Test.YtmheblpgofeafaaDoorDigRoot
import Derived.Test.YtmheblpgofeafaaDoorRefPath
import Derived.Test.YtmheblpgofeafaaDoorRefClimbT
import Derived.Test.YtmheblpgofeafaaDoorRefSame
import Derived.Test.YtmheblpgofeafaaDoorRegU3
import Derived.Test.YtmheblpgofeafaaDoorDigCard2
namespace Go.Proofs.YtmheblpgofeafaaDoor
open Go.ChangeShapes Go.WideShapes Go.ChangeAt Go.RowKit Go.WideElems
set_option linter.unusedVariables false
set_option linter.unusedSimpArgs false

theorem take_dgT (bs : List Int) : ∀ (n i : Nat), i < n → ((dgs bs n).drop (32 * i)).take 32 = dgOf bs i
  | 0, i, h => by omega
  | n + 1, i, h => by
    have hl := dgs_len bs n
    rcases (by omega : i = n ∨ i < n) with rfl | h1
    · rw [dgs, ← hl, List.drop_left, List.take_of_length_le (by rw [dgOf_len]; omega)]
    · rw [dgs, List.drop_append_of_le_length (by omega), List.take_append_of_le_length (by rw [List.length_drop]; omega)]
      exact take_dgT bs n i h1
theorem ownR_someT {w : World} {B n cap : Nat} {q : Option Addr} {fs : List Int} (h : OwnR w B (.slice q n cap) n fs) : ∀ q', q = some q' → ∃ b off, q' = ⟨b, off, none⟩ := by
  intro q' e
  subst e
  obtain ⟨_, ⟨e, _⟩ | ⟨g, cap', cur, e, _⟩⟩ := h
  · cases e
  · cases e; exact ⟨g, 0, rfl⟩
theorem srcD_someT {w : World} {p : Option Addr} {n cap : Nat} {fs : List Int} (h : SrcD w p n cap fs) (hne : ∀ q, p = some q → ∃ b off, q = ⟨b, off, none⟩) (q : Addr) (hq : p = some q) : ∃ b off, q = ⟨b, off, none⟩ ∧ BytesAt w b off fs := by
  obtain ⟨b, off, e⟩ := hne q hq
  refine ⟨b, off, e, ?_⟩
  obtain ⟨h1, h2, h3, h4 | ⟨b', off', e', _, hc⟩⟩ := h
  · have : fs = [] := List.eq_nil_of_length_eq_zero (by omega)
    subst this
    intro j hj
    simp at hj
  · rw [hq, e] at e'
    cases e'
    exact hc
theorem srcD_half {w : World} {p : Option Addr} {n cap : Nat} {fs : List Int} (h : SrcD w p n cap fs) : SrcD w p (n / 2) cap (fs.take (32 * (n / 2))) := by
  obtain ⟨h1, h2, h3, h4 | ⟨b, off, e, hb, hc⟩⟩ := h
  · exact ⟨by rw [List.length_take]; omega, by omega, h3, .inl ⟨by omega, h4.2⟩⟩
  · exact ⟨by rw [List.length_take]; omega, by omega, h3, .inr ⟨b, off, e, hb, hc.take _⟩⟩
/-- what Path answers -/
def IsPG (i : Int) (n : Nat) (L : List Int) (c : Nat) (ps : List Int) (code : Int) : Prop := ((i < 0 ∨ (n : Int) ≤ i) ∧ c = 0 ∧ ps = [] ∧ code = 1) ∨ (∃ A : Nat, i = A ∧ A < n ∧ IsPath A n L c ps ∧ code = 0)
theorem isPG_ex (i : Int) (n : Nat) (L : List Int) (hl : L.length = 32 * n) : ∃ c ps code, IsPG i n L c ps code := by
  by_cases h : i < 0 ∨ (n : Int) ≤ i
  · exact ⟨0, [], 1, .inl ⟨h, rfl, rfl, rfl⟩⟩
  · obtain ⟨A, rfl⟩ : ∃ A : Nat, i = A := ⟨i.toNat, by omega⟩
    obtain ⟨c, ps, hp⟩ := isPath_ex n A L (by omega) hl
    exact ⟨c, ps, 0, .inr ⟨A, rfl, by omega, hp, rfl⟩⟩
theorem IsPG.rng {i : Int} {n c : Nat} {L ps : List Int} {code : Int} (h : IsPG i n L c ps code) : ∀ z ∈ ps, 0 ≤ z ∧ z ≤ 255 := by
  rcases h with ⟨_, _, rfl, _⟩ | ⟨_, _, _, h, _⟩
  · intro z hz; cases hz
  · exact h.rng
theorem IsPG.len {i : Int} {n c : Nat} {L ps : List Int} {code : Int} (h : IsPG i n L c ps code) : ps.length = 32 * c := by
  rcases h with ⟨_, rfl, rfl, _⟩ | ⟨_, _, _, h, _⟩
  · rfl
  · exact h.len
theorem IsPG.le {i : Int} {n c : Nat} {L ps : List Int} {code : Int} (h : IsPG i n L c ps code) : c ≤ n := by
  rcases h with ⟨_, rfl, rfl, _⟩ | ⟨_, _, _, h, _⟩
  · omega
  · exact h.le
def GotPath (w0 : World) (c : Nat) (ps : List Int) (code : Int) (e : Ending) (w : World) : Prop := ∃ p cap, e = .returned (.tuple #[.slice p c cap, .int .i64 code]) ∧ SrcD w p c cap ps ∧ (∀ q', p = some q' → ∃ b off, q' = ⟨b, off, none⟩) ∧ Below w0.heap.size w0 w
theorem srcD_none (w : World) : SrcD w none 0 0 [] := ⟨rfl, by omega, by decide, .inl ⟨rfl, fun _ => rfl⟩⟩
theorem pathG (i : Int) (n : Nat) (L : List Int) (c : Nat) (ps : List Int) (code : Int) (h : IsPG i n L c ps code) (p : Option Addr) (cap : Nat) (w : World) (hz : Hid (SrcD w p n cap L)) (hr : Hid (∀ z ∈ L, 0 ≤ z ∧ z ≤ 255)) (hn : n ≤ 1000) (hk : Hid (KeysAt w)) :
    Calls Tryd.prog 21 #[.slice p n cap, .int .i64 i] w fun e w' => GotPath w c ps code e w' := by
  rcases h with ⟨h, rfl, rfl, rfl⟩ | ⟨A, rfl, hA, hp, rfl⟩
  · by_cases h0 : i < 0
    · exact (path_low p n cap i w h0).mono fun e w' ⟨he, hw⟩ => by subst hw; exact ⟨none, 0, he, srcD_none _, (fun q' e => by cases e), Below.refl _ _⟩
    · exact (path_high p n cap i w h0 (by omega)).mono fun e w' ⟨he, hw⟩ => by subst hw; exact ⟨none, 0, he, srcD_none _, (fun q' e => by cases e), Below.refl _ _⟩
  · refine (pathTop_any A n c L ps hp hA p cap w hz hr hn hk).mono fun e w' ⟨v, he, ho, hb⟩ => ?_
    obtain ⟨q, qc, rfl, hs, _⟩ := ownR_src ho
    exact ⟨q, qc, he, hs, ownR_someT ho, hb⟩
theorem rpathG (i : Int) (n : Nat) (L : List Int) (c : Nat) (ps : List Int) (code : Int) (h : IsPG i n L c ps code) (p : Option Addr) (cap : Nat) (w : World) (hz : Hid (SrcD w p n cap L)) (hr : Hid (∀ z ∈ L, 0 ≤ z ∧ z ≤ 255)) (hn : n ≤ 1000) (hk : Hid (KeysAt w)) :
    Calls Tryd.prog 22 #[.slice p n cap, .int .i64 i] w fun e w' => GotPath w c ps code e w' := by
  rcases h with ⟨h, rfl, rfl, rfl⟩ | ⟨A, rfl, hA, hp, rfl⟩
  · by_cases h0 : i < 0
    · exact (rpath_low p n cap i w h0).mono fun e w' ⟨he, hw⟩ => by subst hw; exact ⟨none, 0, he, srcD_none _, (fun q' e => by cases e), Below.refl _ _⟩
    · exact (rpath_high p n cap i w h0 (by omega)).mono fun e w' ⟨he, hw⟩ => by subst hw; exact ⟨none, 0, he, srcD_none _, (fun q' e => by cases e), Below.refl _ _⟩
  · refine (rpathTop_any A n c L ps hp hA p cap w hz hr hn hk).mono fun e w' ⟨v, he, ho, hb⟩ => ?_
    obtain ⟨q, qc, rfl, hs, _⟩ := ownR_src ho
    exact ⟨q, qc, he, hs, ownR_someT ho, hb⟩
/-- what stands in memory in the outer loop -/
structure Env1 (w wr : World) (ib db lb : Nat) (a x : Int) (dd L : List Int) : Prop where
  i : Blk wr ib #[.int .i64 a, .int .i64 x] 3
  d : Dg wr db dd
  l : BytesAt wr lb 0 L
  ll : lb < wr.heap.size
  b : Below w.heap.size w wr
theorem Env1.ext {w wr u : World} {ib db lb : Nat} {a x : Int} {dd L : List Int} (h : Env1 w wr ib db lb a x dd L) (k : Below wr.heap.size wr u) : Env1 w u ib db lb a x dd L := ⟨h.i.below k h.i.lt, h.d.bel k, h.l.below k h.ll, Nat.lt_of_lt_of_le h.ll k.size, h.b.trans (k.mono h.b.size)⟩
/-- .. in the second -/
structure Env2 (w wr : World) (ib db lb : Nat) (a x : Int) (dd L : List Int) (jb : Nat) (nn : Int) (n : Nat) (q : Option Addr) (c qc : Nat) (ps : List Int) : Prop where
  e : Env1 w wr ib db lb a x dd L
  j : Blk wr jb #[.int .i64 nn, .int .i64 (n : Int)] 3
  s : SrcD wr q c qc ps
theorem Env2.ext {w wr u : World} {ib db lb : Nat} {a x : Int} {dd L : List Int} {jb : Nat} {nn : Int} {n : Nat} {q : Option Addr} {c qc : Nat} {ps : List Int} (h : Env2 w wr ib db lb a x dd L jb nn n q c qc ps) (k : Below wr.heap.size wr u) : Env2 w u ib db lb a x dd L jb nn n q c qc ps := ⟨h.e.ext k, h.j.below k h.j.lt, h.s.below k⟩
/-- .. in the third -/
structure Env3 (w wr : World) (ib db lb : Nat) (a x : Int) (dd L : List Int) (jb : Nat) (nn : Int) (n : Nat) (q : Option Addr) (c qc : Nat) (ps : List Int) (tb : Nat) (q2 : Option Addr) (qc2 : Nat) : Prop where
  e : Env2 w wr ib db lb a x dd L jb nn n q c qc ps
  t : Blk wr tb #[.slice q c qc, .slice q2 (c + 1) qc2, .slice q (c / 2) qc] 30
  s : SrcD wr q2 (c + 1) qc2 (ps ++ dd)
theorem Env3.ext {w wr u : World} {ib db lb : Nat} {a x : Int} {dd L : List Int} {jb : Nat} {nn : Int} {n : Nat} {q : Option Addr} {c qc : Nat} {ps : List Int} {tb : Nat} {q2 : Option Addr} {qc2 : Nat} (h : Env3 w wr ib db lb a x dd L jb nn n q c qc ps tb q2 qc2) (k : Below wr.heap.size wr u) : Env3 w u ib db lb a x dd L jb nn n q c qc ps tb q2 qc2 := ⟨h.e.ext k, h.t.below k h.t.lt, h.s.below k⟩

set_option maxRecDepth 100000 in
set_option maxHeartbeats 16000000 in
theorem digestTreeSpec_walk (p : Option Addr) (m cap : Nat) (bs dd : List Int) (a nn : Int) (w : World) (hz : Hid (SrcW w p m cap bs)) (hr : Hid (∀ z ∈ bs, 0 ≤ z ∧ z ≤ 255)) (hm : m ≤ 9223372036854775807) (HDL : Hid (dd.length = 32)) (HDR : Hid (∀ z ∈ dd, 0 ≤ z ∧ z ≤ 255)) (hk : Hid (KeysAt w)) :
    Calls Tryd.prog 4 #[.slice p m cap, .int .i64 a, .int .i64 nn, .agg (bv dd).toArray] w fun e w' => e = .returned (.bool true) ∧ Below w.heap.size w w' := by
  go_enter Tryd.func4, Tryd.ntmps4
  go_wp2_with fail
  generalize hW : World.alloc _ _ = w0
  have D0 := Lib.hid (show Dg w0 w.heap.size dd by rw [← hW]; exact Dg.box w HDL.out)
  have B0 := Lib.hid (show Below w.heap.size w w0 by rw [← hW]; exact bel_alloc1 w _)
  clear hW
  obtain ⟨db, hdb⟩ : ∃ b, w.heap.size = b := ⟨_, rfl⟩
  have hF : w.heap.size ≤ db := by omega
  have B0' : Hid (Below w.heap.size w w0) := B0
  rw [hdb] at D0 ⊢
  clear hdb B0
  refine (dsane_any w0 (Lib.hid (hk.out.below B0'.out))).mono ?_; rintro e w1 ⟨rfl, hb⟩
  have D1 := Lib.hid (D0.out.bel hb)
  have B1 := Lib.hid (B0'.out.trans (hb.mono B0'.out.size)); clear hb D0 B0'
  go_wp2_with fail
  refine (digestsOf_any p m cap bs w1 (Lib.hid (hz.out.below B1.out)) hr hm).mono ?_
  rintro e w2 ⟨lb, lcap, rfl, hl1, hl2, hl3, hl4, hl5, hb5⟩
  have D2 := Lib.hid (D1.out.bel hb5)
  have B2 := Lib.hid (B1.out.trans (hb5.mono B1.out.size))
  have hLr := Lib.hid (dgs_rng bs (min m 24) (by omega))
  have hLl := Lib.hid (dgs_len bs (min m 24))
  have hLB := Lib.hid hl5
  have hLe : Hid (∀ i, i < min m 24 → ((dgs bs (min m 24)).drop (32 * i)).take 32 = dgOf bs i) := Lib.hid (take_dgT bs (min m 24))
  have hn24 : min m 24 ≤ 24 := by omega
  obtain ⟨n, hn⟩ : ∃ n, min m 24 = n := ⟨_, rfl⟩
  rw [hn] at hLr hLl hLB hLe hn24 hl3 ⊢
  obtain ⟨L, hL⟩ : ∃ L, dgs bs n = L := ⟨_, rfl⟩
  rw [hL] at hLr hLl hLB hLe
  have hml : maxLen ≤ 9223372036854775807 := by decide
  clear hl5 hb5 B1 D1 hn hl1 hL
  have SD : Hid (SrcD w2 (some ⟨lb, 0, none⟩) n lcap L) := Lib.hid ⟨hLl.out, hl3, hl4, .inr ⟨lb, 0, rfl, hl2, hLB.out⟩⟩
  obtain ⟨ds, hds⟩ := isTree_ex n L hLl.out
  have HT := Lib.hid hds
  have EQ0 := eqDig_same ds hds.len
  clear hds hLe
  go_wp2_with fail
  refine (tree_any n L ds HT.out (some ⟨lb, 0, none⟩) lcap w2 SD hLr (by omega) (Lib.hid (hk.out.below B2.out))).mono ?_
  rintro e w3 ⟨rfl, hb3⟩
  go_wp2_with fail
  refine (rtree_any n L ds HT.out (some ⟨lb, 0, none⟩) lcap w3 (Lib.hid (SD.out.below hb3)) hLr (by omega) (Lib.hid ((hk.out.below B2.out).below hb3))).mono ?_
  rintro e w4 ⟨rfl, hb4⟩
  have K4 : Below w2.heap.size w2 w4 := hb3.trans (hb4.mono hb3.size)
  have B4 := Lib.hid (B2.out.trans (K4.mono B2.out.size))
  have D4 := Lib.hid (D2.out.bel K4)
  have L4 := Lib.hid (hLB.out.below K4 hl2)
  have l4 : lb < w4.heap.size := Nat.lt_of_lt_of_le hl2 K4.size
  clear hb3 hb4 K4 SD B2 D2 hLB hl2
  go_wp2_with fail
  generalize hx : bits _ _ a 15 = x
  clear hx
  generalize hA : World.alloc _ _ = w5
  have E5 : Hid (Env1 w w5 w4.heap.size db lb a x dd L) := Lib.hid (by rw [← hA]; exact ⟨Blk.new w4 _ _, D4.out.alloc _, L4.out.below (bel_alloc1 _ _) l4, by simp; omega, B4.out.alloc B4.out.size _⟩)
  clear hA B4 D4 L4 l4 EQ0 HT
  obtain ⟨ib, hib⟩ : ∃ b, w4.heap.size = b := ⟨_, rfl⟩
  rw [hib] at E5 ⊢
  clear hib
  go_loopw [38] (fun i wr => ∃ (k1 : Nat), k1 ≤ 2 ∧ i = .int .i64 k1 ∧ Hid (Env1 w wr ib db lb a x dd L)) (fun i _ => 2 - (intOf i).toNat)
  case atStart => exact ⟨0, by omega, rfl, E5⟩
  case round =>
    obtain ⟨k1, hk1, rfl, R1⟩ := hrel
    clear E5
    by_cases h1 : k1 < 2
    case neg =>
      go_wp2_with fail
      go_ret
      exact ⟨rfl, R1.out.b⟩
    obtain ⟨i, hi⟩ : ∃ i, wr.cell? ⟨ib, k1, none⟩ = some (.int .i64 i) := by
      rw [R1.out.i.cell k1]
      rcases (by omega : k1 = 0 ∨ k1 = 1) with rfl | rfl
      · exact ⟨a, rfl⟩
      · exact ⟨x, rfl⟩
    obtain ⟨c, ps, code, hpg⟩ := isPG_ex i n L hLl.out
    have HPG := Lib.hid hpg
    have HPL := Lib.hid hpg.len
    have HPR := Lib.hid hpg.rng
    have hcn : c ≤ n := hpg.le
    clear hpg
    go_wp2_with fail
    refine (pathG i n L c ps code HPG.out (some ⟨lb, 0, none⟩) lcap wr (Lib.hid ⟨hLl.out, hl3, hl4, .inr ⟨lb, 0, rfl, R1.out.ll, R1.out.l⟩⟩) hLr (by omega) (Lib.hid (hk.out.below R1.out.b))).mono ?_
    rintro e w6 ⟨pp, pc, rfl, hs6, hm6, hb6⟩
    have R6 := Lib.hid (R1.out.ext hb6)
    have S6 := Lib.hid hs6
    clear hs6 hm6 hb6 R1 hi
    go_wp2_with fail
    refine (rpathG i n L c ps code HPG.out (some ⟨lb, 0, none⟩) lcap w6 (Lib.hid ⟨hLl.out, hl3, hl4, .inr ⟨lb, 0, rfl, R6.out.ll, R6.out.l⟩⟩) hLr (by omega) (Lib.hid (hk.out.below R6.out.b))).mono ?_
    rintro e w7 ⟨q, qc, rfl, hs7, hm7, hb7⟩
    have R7 := Lib.hid (R6.out.ext hb7)
    have S7 := Lib.hid (S6.out.below hb7)
    have Q7 := Lib.hid hs7
    have HQS := Lib.hid hm7
    clear hs7 hm7 hb7 R6 S6
    go_wp2_with fail
    refine (rsame_any pp q c pc qc ps w7 S7 Q7 (by omega)).mono ?_
    rintro e w8 ⟨rfl, hb8⟩
    have R8 := Lib.hid (R7.out.ext hb8)
    have Q8 := Lib.hid (Q7.out.below hb8)
    clear hb8 R7 S7 Q7
    go_wp2_with fail
    generalize hA : World.alloc _ _ = w9
    have E9 : Hid (Env2 w w9 ib db lb a x dd L w8.heap.size nn n q c qc ps) := Lib.hid (by rw [← hA]; exact ⟨R8.out.ext (bel_alloc1 _ _), Blk.new w8 _ _, Q8.out.below (bel_alloc1 _ _)⟩)
    clear hA R8 Q8
    obtain ⟨jb, hjb⟩ : ∃ b, w8.heap.size = b := ⟨_, rfl⟩
    rw [hjb] at E9 ⊢
    clear hjb
    go_loopw [68] (fun i wr => ∃ (k2 : Nat), k2 ≤ 2 ∧ i = .int .i64 k2 ∧ Hid (Env2 w wr ib db lb a x dd L jb nn n q c qc ps)) (fun i _ => 2 - (intOf i).toNat)
    case atStart => exact ⟨0, by omega, rfl, E9⟩
    case round =>
      obtain ⟨k2, hk2, rfl, R2⟩ := hrel
      clear E9
      by_cases h2 : k2 < 2
      case neg =>
        have R3 := Lib.hid R2.out.e
        clear R2
        go_wp2_with fail
        go_roundw
        case rel => exact ⟨k1 + 1, by omega, by go_num, R3⟩
        case measure => simp [intOf]; omega
      obtain ⟨M, hM⟩ : ∃ M, wr.cell? ⟨jb, k2, none⟩ = some (.int .i64 M) := by
        rw [R2.out.j.cell k2]
        rcases (by omega : k2 = 0 ∨ k2 = 1) with rfl | rfl
        · exact ⟨nn, rfl⟩
        · exact ⟨n, rfl⟩
      go_upto_region 16 with fail
      clear hM
      go_cut [84, 85, 86] (fun s84 s85 s86 wx => ∃ tb q2 qc2, s84 = .slice (some ⟨tb, 0, none⟩) 3 3 ∧ s85 = .int .i64 3 ∧ s86 = .int .i64 0 ∧ Hid (Env3 w wx ib db lb a x dd L jb nn n q c qc ps tb q2 qc2))
      case first =>
        cases q with
        | some q0 =>
          obtain ⟨qb, qo, rfl⟩ := HQS.out q0 rfl
          refine wp_region_any (by kernel_rfl) ?_
          change wpAny _ _ _ _ _ _ _ (World.drew _)
          generalize hWD : wr.drew = W0
          have E0 := Lib.hid (show Env2 w W0 ib db lb a x dd L jb nn n (some ⟨qb, qo, none⟩) c qc ps by rw [← hWD]; exact R2.out.ext (Below.refl _ _).drew)
          have D0 := Lib.hid E0.out.e.d
          have S0 := Lib.hid E0.out.s
          clear hWD
          refine region_E [] ?_
          have hqc : (c : Int) ≤ (qc : Int) := by have := S0.out.2.1; omega
          have hh0 : 0 ≤ (c : Int) / 2 := by omega
          have hh1 : (c : Int) / 2 ≤ (c : Int) := by omega
          have hh2 : (c : Int) / 2 ≤ (qc : Int) := by omega
          have hh3 : ((c : Int) / 2).toNat = c / 2 := by omega
          refine anyU_takeD (i := 0) (v := .slice (some ⟨qb, qo, none⟩) c qc) 72 rfl rfl (by kernel_rfl) (by kernel_rfl) (by kernel_rfl) (fun _ _ _ h => h) (by kernel_rfl) (Ext.stable _) (fun _ h => h) (yieldsU_val rfl (fun u hu => by rfl)) ?_
          refine anyU_takeD (i := 2) (v := .slice (some ⟨qb, qo, none⟩) c qc) 74 rfl rfl (by kernel_rfl) (by kernel_rfl) (by kernel_rfl) (fun _ _ _ h => h) (by kernel_rfl) (Ext.stable _) (fun _ h => h) (yieldsU_val rfl (fun u hu => by rfl)) ?_
          refine anyU_takeD (i := 4) (v := .agg (bv dd).toArray) 76 rfl rfl (by kernel_rfl) (by kernel_rfl) (by kernel_rfl) (fun _ _ _ h => h) (by kernel_rfl) (Ext.stable _) (fun _ h => h) (yieldsU_of_C (yields_loadD rfl _ rfl db rfl dd HDL.out (fun u hu => D0.out.bel hu))) ?_
          refine anyU_takeD (i := 7) (v := .slice (some ⟨qb, qo, none⟩) c qc) 79 rfl rfl (by kernel_rfl) (by kernel_rfl) (by kernel_rfl) (fun _ _ _ h => h) (by kernel_rfl) (Ext.stable _) (fun _ h => h) (yieldsU_val rfl (fun u hu => by rfl)) ?_
          refine anyU_takeD (i := 8) (v := .slice (some ⟨qb, qo, none⟩) c qc) 80 rfl rfl (by kernel_rfl) (by kernel_rfl) (by kernel_rfl) (fun _ _ _ h => h) (by kernel_rfl) (Ext.stable _) (fun _ h => h) (yieldsU_val rfl (fun u hu => by rfl)) ?_
          (try simp only [Act.put, List.setIfInBounds_toArray, List.set_cons_succ, List.set_cons_zero])
          refine anyU_takeD (i := 9) (v := .int .i64 (c : Int)) 81 rfl rfl (by kernel_rfl) (by kernel_rfl) (by kernel_rfl) (fun _ _ _ h => h) (by kernel_rfl) (Ext.stable _) (fun _ h => h) (yieldsU_val rfl (fun u hu => by go_simp)) ?_
          refine anyU_takeD (i := 10) (v := .int .i64 ((c : Int) / 2)) 82 rfl rfl (by kernel_rfl) (by kernel_rfl) (by kernel_rfl) (fun _ _ _ h => h) (by kernel_rfl) (Ext.stable _) (fun _ h => h) (yieldsU_val rfl (fun u hu => by go_simp; rw [IntKind.wrap_i64]; omega)) ?_
          refine anyU_takeD (i := 11) (v := .slice (some ⟨qb, qo, none⟩) (c / 2) qc) 83 rfl rfl (by kernel_rfl) (by kernel_rfl) (by kernel_rfl) (fun _ _ _ h => h) (by kernel_rfl) (Ext.stable _) (fun _ h => h) (yieldsU_val rfl (fun u hu => by go_simp)) ?_
          refine anyU_takeD (i := 14) (v := .int .i64 0) 86 rfl rfl (by kernel_rfl) (by kernel_rfl) (by kernel_rfl) (fun _ _ _ h => h) (by kernel_rfl) (Ext.stable _) (fun _ h => h) (yieldsU_val rfl (fun u hu => by rfl)) ?_
          (try simp only [Act.put, List.setIfInBounds_toArray, List.set_cons_succ, List.set_cons_zero])
          have EW : Hid (Ext W0 W0) := Lib.hid (Ext.refl W0)
          refine anyU_two 1 5 5 _ _ rfl rfl rfl rfl (by kernel_rfl) ?s1x ?s5x
          case s1x =>
            intro w9 h
            go_wp2_with fail
            change ∃ C' : World → Prop, _ ∧ _ ∧ _ ∧ anyU _ _ _ _ _ _ 5 _ _ _
            generalize hA : World.alloc _ _ = W
            have z0 : W0.heap.size ≤ w9.heap.size := (Ext.trans EW.out h).size
            have O := Lib.hid (show OwnR W W0.heap.size (.slice (some ⟨w9.heap.size, 0, none⟩) 0 0) 0 [] by rw [← hA]; exact ownR_emp w9 _ z0)
            replace EW := Lib.hid (show Ext W0 W by rw [← hA]; exact Ext.alloc (Ext.trans EW.out h) _)
            clear hA h z0
            obtain ⟨e4, he4⟩ : ∃ b, w9.heap.size = b := ⟨_, rfl⟩
            rw [he4] at O ⊢
            clear he4
            refine anchor EW.out ?_
            refine anyU_two 3 5 4 _ _ rfl rfl rfl rfl (by kernel_rfl) ?s3_1x ?s5_1x
            case s3_1x =>
              intro w9 h
              have z0 : W0.heap.size ≤ w9.heap.size := (Ext.trans EW.out h).size
              refine list_appXS rfl rfl (.tmp 73) (.tmp 74) rfl W0.heap.size (.slice (some ⟨e4, 0, none⟩) 0 0) 0 [] rfl (ownR_below O.out h) (some ⟨qb, qo, none⟩) c qc ps rfl (S0.out.below (Ext.trans EW.out h)) (by omega) (srcD_someT (S0.out.below (Ext.trans EW.out h)) HQS.out) z0 ?_
              intro v1 W o1 g1 l1
              change ∃ C' : World → Prop, _ ∧ _ ∧ _ ∧ anyU _ _ _ _ _ _ 4 _ _ _
              replace EW := Lib.hid (show Ext W0 W from grown_below (Ext.trans EW.out h) g1 z0 (fun g hg => (ownR_lt O.out g hg).1))
              replace O := Lib.hid o1
              clear o1 g1 l1 h z0
              (try simp only [Act.put])
              refine anchor EW.out ?_
              refine anyU_one 5 3 _ rfl rfl (by kernel_rfl) ?_
              intro w9 h
              refine list_build1 (by rfl) (.tmp 76) rfl (bv dd) rfl (by rw [bv_len]; exact HDL.out) ?_
              change ∃ C' : World → Prop, _ ∧ _ ∧ _ ∧ anyU _ _ _ _ _ _ 3 _ _ _
              generalize hA : World.alloc _ _ = W
              have F8 := Lib.hid (show Dg W w9.heap.size dd by rw [← hA]; exact Dg.box w9 HDL.out)
              have NE8 : Hid (Value.ownBlock v1 ≠ some w9.heap.size) := Lib.hid (fun e => by have h1 := (ownR_lt O.out _ e).2; have h2 := h.size; omega)
              replace EW := Lib.hid (show Ext W0 W by rw [← hA]; exact Ext.alloc (Ext.trans EW.out h) _)
              replace O := Lib.hid (show OwnR W W0.heap.size v1 (0 + c) ([] ++ ps) by rw [← hA]; exact ownR_below (ownR_below O.out h) (bel_alloc1 _ _))
              clear hA h
              obtain ⟨b8, hb_⟩ : ∃ b, w9.heap.size = b := ⟨_, rfl⟩
              rw [hb_] at F8 NE8 ⊢
              clear hb_
              refine anchor EW.out ?_
              refine anyU_one 6 2 _ rfl rfl (by kernel_rfl) ?_
              intro w9 h
              have z0 : W0.heap.size ≤ w9.heap.size := (Ext.trans EW.out h).size
              refine list_appX rfl (.tmp 75) (.tmp 77) rfl W0.heap.size v1 (0 + c) ([] ++ ps) rfl (ownR_below O.out h) b8 0 1 1 dd rfl (by rw [HDL.out]) (F8.out.bel h).bytes (by omega) z0 ?_
              intro v1 W o1 g1 l1
              change ∃ C' : World → Prop, _ ∧ _ ∧ _ ∧ anyU _ _ _ _ _ _ 2 _ _ _
              replace EW := Lib.hid (show Ext W0 W from grown_below (Ext.trans EW.out h) g1 z0 (fun g hg => (ownR_lt O.out g hg).1))
              obtain ⟨q2, qc2, rfl, hs2, _⟩ := ownR_src o1
              have e1 : 0 + c + 1 = c + 1 := by omega
              rw [e1] at hs2 ⊢
              have S2 := Lib.hid (show SrcD W q2 (c + 1) qc2 (ps ++ dd) from hs2)
              clear e1 hs2 o1 g1 l1 h z0 O F8 NE8
              (try simp only [Act.put])
              refine anchor EW.out ?_
              refine anyU_one 12 1 _ rfl rfl (by kernel_rfl) ?_
              intro w9 h
              (try simp only [Act.put])
              go_wp2_with fail
              change ∃ C' : World → Prop, _ ∧ _ ∧ _ ∧ anyU _ _ _ _ _ _ 1 _ _ _
              generalize hA : World.alloc _ _ = W
              have T := Lib.hid (show Blk W w9.heap.size #[.slice (some ⟨qb, qo, none⟩) c qc, .slice q2 (c + 1) qc2, .slice (some ⟨qb, qo, none⟩) (c / 2) qc] 30 by rw [← hA]; exact Blk.new w9 _ _)
              replace S2 := Lib.hid (show SrcD W q2 (c + 1) qc2 (ps ++ dd) by rw [← hA]; exact (S2.out.below h).below (bel_alloc1 _ _))
              replace EW := Lib.hid (show Ext W0 W by rw [← hA]; exact Ext.alloc (Ext.trans EW.out h) _)
              clear hA h
              obtain ⟨tb, htb⟩ : ∃ b, w9.heap.size = b := ⟨_, rfl⟩
              rw [htb] at T ⊢
              clear htb
              refine anchor EW.out ?_
              refine anyU_takeD (i := 13) (v := .int .i64 3) 85 rfl rfl (by kernel_rfl) (by kernel_rfl) (by kernel_rfl) (fun _ _ _ h => h) (by kernel_rfl) (Ext.stable _) (fun _ hu => Ext.trans EW.out hu) (yieldsU_val rfl (fun u hu => by go_simp)) ?_
              refine anyU_done (by kernel_rfl) ?_
              intro w9 h
              have EZ := Lib.hid (Ext.trans EW.out h)
              (try simp only [Act.put, List.setIfInBounds_toArray, List.set_cons_succ, List.set_cons_zero])
              go_wp2_with fail
              go_meet
              exact ⟨tb, q2, qc2, rfl, rfl, rfl, Lib.hid ⟨E0.out.ext EZ.out, T.out.below h T.out.lt, S2.out.below h⟩⟩
            case s5_1x =>
              intro w9 h
              refine list_build1 (by rfl) (.tmp 76) rfl (bv dd) rfl (by rw [bv_len]; exact HDL.out) ?_
              change ∃ C' : World → Prop, _ ∧ _ ∧ _ ∧ anyU _ _ _ _ _ _ 4 _ _ _
              generalize hA : World.alloc _ _ = W
              have F8 := Lib.hid (show Dg W w9.heap.size dd by rw [← hA]; exact Dg.box w9 HDL.out)
              have NE8 : Hid (Value.ownBlock (.slice (some ⟨e4, 0, none⟩) 0 0) ≠ some w9.heap.size) := Lib.hid (fun e => by have h1 := (ownR_lt O.out _ e).2; have h2 := h.size; omega)
              replace EW := Lib.hid (show Ext W0 W by rw [← hA]; exact Ext.alloc (Ext.trans EW.out h) _)
              replace O := Lib.hid (show OwnR W W0.heap.size (.slice (some ⟨e4, 0, none⟩) 0 0) 0 [] by rw [← hA]; exact ownR_below (ownR_below O.out h) (bel_alloc1 _ _))
              clear hA h
              obtain ⟨b8, hb_⟩ : ∃ b, w9.heap.size = b := ⟨_, rfl⟩
              rw [hb_] at F8 NE8 ⊢
              clear hb_
              refine anchor EW.out ?_
              refine anyU_one 3 3 _ rfl rfl (by kernel_rfl) ?_
              intro w9 h
              have z0 : W0.heap.size ≤ w9.heap.size := (Ext.trans EW.out h).size
              refine list_appXS rfl rfl (.tmp 73) (.tmp 74) rfl W0.heap.size (.slice (some ⟨e4, 0, none⟩) 0 0) 0 [] rfl (ownR_below O.out h) (some ⟨qb, qo, none⟩) c qc ps rfl (S0.out.below (Ext.trans EW.out h)) (by omega) (srcD_someT (S0.out.below (Ext.trans EW.out h)) HQS.out) z0 ?_
              intro v1 W o1 g1 l1
              change ∃ C' : World → Prop, _ ∧ _ ∧ _ ∧ anyU _ _ _ _ _ _ 3 _ _ _
              have z8 : b8 < w9.heap.size := Nat.lt_of_lt_of_le F8.out.lt h.size
              have N8 : Hid (v1.ownBlock ≠ some b8) := Lib.hid (fun e => by rcases l1 _ e with h1 | h1; exact NE8.out h1; omega)
              replace F8 := Lib.hid (show Dg W b8 _ from (F8.out.bel h).grown g1 NE8.out)
              replace EW := Lib.hid (show Ext W0 W from grown_below (Ext.trans EW.out h) g1 z0 (fun g hg => (ownR_lt O.out g hg).1))
              replace O := Lib.hid o1
              replace NE8 := N8
              clear z8
              clear o1 g1 l1 h z0
              (try simp only [Act.put])
              refine anchor EW.out ?_
              refine anyU_one 6 2 _ rfl rfl (by kernel_rfl) ?_
              intro w9 h
              have z0 : W0.heap.size ≤ w9.heap.size := (Ext.trans EW.out h).size
              refine list_appX rfl (.tmp 75) (.tmp 77) rfl W0.heap.size v1 (0 + c) ([] ++ ps) rfl (ownR_below O.out h) b8 0 1 1 dd rfl (by rw [HDL.out]) (F8.out.bel h).bytes (by omega) z0 ?_
              intro v1 W o1 g1 l1
              change ∃ C' : World → Prop, _ ∧ _ ∧ _ ∧ anyU _ _ _ _ _ _ 2 _ _ _
              replace EW := Lib.hid (show Ext W0 W from grown_below (Ext.trans EW.out h) g1 z0 (fun g hg => (ownR_lt O.out g hg).1))
              obtain ⟨q2, qc2, rfl, hs2, _⟩ := ownR_src o1
              have e1 : 0 + c + 1 = c + 1 := by omega
              rw [e1] at hs2 ⊢
              have S2 := Lib.hid (show SrcD W q2 (c + 1) qc2 (ps ++ dd) from hs2)
              clear e1 hs2 o1 g1 l1 h z0 O F8 NE8
              (try simp only [Act.put])
              refine anchor EW.out ?_
              refine anyU_one 12 1 _ rfl rfl (by kernel_rfl) ?_
              intro w9 h
              (try simp only [Act.put])
              go_wp2_with fail
              change ∃ C' : World → Prop, _ ∧ _ ∧ _ ∧ anyU _ _ _ _ _ _ 1 _ _ _
              generalize hA : World.alloc _ _ = W
              have T := Lib.hid (show Blk W w9.heap.size #[.slice (some ⟨qb, qo, none⟩) c qc, .slice q2 (c + 1) qc2, .slice (some ⟨qb, qo, none⟩) (c / 2) qc] 30 by rw [← hA]; exact Blk.new w9 _ _)
              replace S2 := Lib.hid (show SrcD W q2 (c + 1) qc2 (ps ++ dd) by rw [← hA]; exact (S2.out.below h).below (bel_alloc1 _ _))
              replace EW := Lib.hid (show Ext W0 W by rw [← hA]; exact Ext.alloc (Ext.trans EW.out h) _)
              clear hA h
              obtain ⟨tb, htb⟩ : ∃ b, w9.heap.size = b := ⟨_, rfl⟩
              rw [htb] at T ⊢
              clear htb
              refine anchor EW.out ?_
              refine anyU_takeD (i := 13) (v := .int .i64 3) 85 rfl rfl (by kernel_rfl) (by kernel_rfl) (by kernel_rfl) (fun _ _ _ h => h) (by kernel_rfl) (Ext.stable _) (fun _ hu => Ext.trans EW.out hu) (yieldsU_val rfl (fun u hu => by go_simp)) ?_
              refine anyU_done (by kernel_rfl) ?_
              intro w9 h
              have EZ := Lib.hid (Ext.trans EW.out h)
              (try simp only [Act.put, List.setIfInBounds_toArray, List.set_cons_succ, List.set_cons_zero])
              go_wp2_with fail
              go_meet
              exact ⟨tb, q2, qc2, rfl, rfl, rfl, Lib.hid ⟨E0.out.ext EZ.out, T.out.below h T.out.lt, S2.out.below h⟩⟩
          case s5x =>
            intro w9 h
            refine list_build1 (by rfl) (.tmp 76) rfl (bv dd) rfl (by rw [bv_len]; exact HDL.out) ?_
            change ∃ C' : World → Prop, _ ∧ _ ∧ _ ∧ anyU _ _ _ _ _ _ 5 _ _ _
            generalize hA : World.alloc _ _ = W
            have F8 := Lib.hid (show Dg W w9.heap.size dd by rw [← hA]; exact Dg.box w9 HDL.out)
            replace EW := Lib.hid (show Ext W0 W by rw [← hA]; exact Ext.alloc (Ext.trans EW.out h) _)
            clear hA h
            obtain ⟨b8, hb_⟩ : ∃ b, w9.heap.size = b := ⟨_, rfl⟩
            rw [hb_] at F8 ⊢
            clear hb_
            refine anchor EW.out ?_
            refine anyU_one 1 4 _ rfl rfl (by kernel_rfl) ?_
            intro w9 h
            go_wp2_with fail
            change ∃ C' : World → Prop, _ ∧ _ ∧ _ ∧ anyU _ _ _ _ _ _ 4 _ _ _
            generalize hA : World.alloc _ _ = W
            have z0 : W0.heap.size ≤ w9.heap.size := (Ext.trans EW.out h).size
            have O := Lib.hid (show OwnR W W0.heap.size (.slice (some ⟨w9.heap.size, 0, none⟩) 0 0) 0 [] by rw [← hA]; exact ownR_emp w9 _ z0)
            have z8 : b8 < w9.heap.size := Nat.lt_of_lt_of_le F8.out.lt h.size
            replace EW := Lib.hid (show Ext W0 W by rw [← hA]; exact Ext.alloc (Ext.trans EW.out h) _)
            replace F8 := Lib.hid (show Dg W b8 dd by rw [← hA]; exact (F8.out.bel h).alloc _)
            clear hA h z0
            obtain ⟨e4, he4⟩ : ∃ b, w9.heap.size = b := ⟨_, rfl⟩
            rw [he4] at O z8 ⊢
            clear he4
            have NE8 : Hid (Value.ownBlock (.slice (some ⟨e4, 0, none⟩) 0 0) ≠ some b8) := Lib.hid (by simp [Value.ownBlock]; omega)
            refine anchor EW.out ?_
            refine anyU_one 3 3 _ rfl rfl (by kernel_rfl) ?_
            intro w9 h
            have z0 : W0.heap.size ≤ w9.heap.size := (Ext.trans EW.out h).size
            refine list_appXS rfl rfl (.tmp 73) (.tmp 74) rfl W0.heap.size (.slice (some ⟨e4, 0, none⟩) 0 0) 0 [] rfl (ownR_below O.out h) (some ⟨qb, qo, none⟩) c qc ps rfl (S0.out.below (Ext.trans EW.out h)) (by omega) (srcD_someT (S0.out.below (Ext.trans EW.out h)) HQS.out) z0 ?_
            intro v1 W o1 g1 l1
            change ∃ C' : World → Prop, _ ∧ _ ∧ _ ∧ anyU _ _ _ _ _ _ 3 _ _ _
            have z8 : b8 < w9.heap.size := Nat.lt_of_lt_of_le F8.out.lt h.size
            have N8 : Hid (v1.ownBlock ≠ some b8) := Lib.hid (fun e => by rcases l1 _ e with h1 | h1; exact NE8.out h1; omega)
            replace F8 := Lib.hid (show Dg W b8 _ from (F8.out.bel h).grown g1 NE8.out)
            replace EW := Lib.hid (show Ext W0 W from grown_below (Ext.trans EW.out h) g1 z0 (fun g hg => (ownR_lt O.out g hg).1))
            replace O := Lib.hid o1
            replace NE8 := N8
            clear z8
            clear o1 g1 l1 h z0
            (try simp only [Act.put])
            refine anchor EW.out ?_
            refine anyU_one 6 2 _ rfl rfl (by kernel_rfl) ?_
            intro w9 h
            have z0 : W0.heap.size ≤ w9.heap.size := (Ext.trans EW.out h).size
            refine list_appX rfl (.tmp 75) (.tmp 77) rfl W0.heap.size v1 (0 + c) ([] ++ ps) rfl (ownR_below O.out h) b8 0 1 1 dd rfl (by rw [HDL.out]) (F8.out.bel h).bytes (by omega) z0 ?_
            intro v1 W o1 g1 l1
            change ∃ C' : World → Prop, _ ∧ _ ∧ _ ∧ anyU _ _ _ _ _ _ 2 _ _ _
            replace EW := Lib.hid (show Ext W0 W from grown_below (Ext.trans EW.out h) g1 z0 (fun g hg => (ownR_lt O.out g hg).1))
            obtain ⟨q2, qc2, rfl, hs2, _⟩ := ownR_src o1
            have e1 : 0 + c + 1 = c + 1 := by omega
            rw [e1] at hs2 ⊢
            have S2 := Lib.hid (show SrcD W q2 (c + 1) qc2 (ps ++ dd) from hs2)
            clear e1 hs2 o1 g1 l1 h z0 O F8 NE8
            (try simp only [Act.put])
            refine anchor EW.out ?_
            refine anyU_one 12 1 _ rfl rfl (by kernel_rfl) ?_
            intro w9 h
            (try simp only [Act.put])
            go_wp2_with fail
            change ∃ C' : World → Prop, _ ∧ _ ∧ _ ∧ anyU _ _ _ _ _ _ 1 _ _ _
            generalize hA : World.alloc _ _ = W
            have T := Lib.hid (show Blk W w9.heap.size #[.slice (some ⟨qb, qo, none⟩) c qc, .slice q2 (c + 1) qc2, .slice (some ⟨qb, qo, none⟩) (c / 2) qc] 30 by rw [← hA]; exact Blk.new w9 _ _)
            replace S2 := Lib.hid (show SrcD W q2 (c + 1) qc2 (ps ++ dd) by rw [← hA]; exact (S2.out.below h).below (bel_alloc1 _ _))
            replace EW := Lib.hid (show Ext W0 W by rw [← hA]; exact Ext.alloc (Ext.trans EW.out h) _)
            clear hA h
            obtain ⟨tb, htb⟩ : ∃ b, w9.heap.size = b := ⟨_, rfl⟩
            rw [htb] at T ⊢
            clear htb
            refine anchor EW.out ?_
            refine anyU_takeD (i := 13) (v := .int .i64 3) 85 rfl rfl (by kernel_rfl) (by kernel_rfl) (by kernel_rfl) (fun _ _ _ h => h) (by kernel_rfl) (Ext.stable _) (fun _ hu => Ext.trans EW.out hu) (yieldsU_val rfl (fun u hu => by go_simp)) ?_
            refine anyU_done (by kernel_rfl) ?_
            intro w9 h
            have EZ := Lib.hid (Ext.trans EW.out h)
            (try simp only [Act.put, List.setIfInBounds_toArray, List.set_cons_succ, List.set_cons_zero])
            go_wp2_with fail
            go_meet
            exact ⟨tb, q2, qc2, rfl, rfl, rfl, Lib.hid ⟨E0.out.ext EZ.out, T.out.below h T.out.lt, S2.out.below h⟩⟩
        | none =>
          have hc0 : c = 0 := by obtain ⟨_, _, _, h4 | ⟨_, _, e, _⟩⟩ := R2.out.s
                                 · exact h4.1
                                 · cases e
          have hqc0 : qc = 0 := by obtain ⟨_, _, _, h4 | ⟨_, _, e, _⟩⟩ := R2.out.s
                                   · exact h4.2 rfl
                                   · cases e
          subst hc0
          subst hqc0
          refine wp_region_any (by kernel_rfl) ?_
          change wpAny _ _ _ _ _ _ _ (World.drew _)
          generalize hWD : wr.drew = W0
          have E0 := Lib.hid (show Env2 w W0 ib db lb a x dd L jb nn n none 0 0 ps by rw [← hWD]; exact R2.out.ext (Below.refl _ _).drew)
          have D0 := Lib.hid E0.out.e.d
          have S0 := Lib.hid E0.out.s
          clear hWD
          refine region_E [] ?_
          refine anyU_takeD (i := 0) (v := .slice none 0 0) 72 rfl rfl (by kernel_rfl) (by kernel_rfl) (by kernel_rfl) (fun _ _ _ h => h) (by kernel_rfl) (Ext.stable _) (fun _ h => h) (yieldsU_val rfl (fun u hu => by rfl)) ?_
          refine anyU_takeD (i := 2) (v := .slice none 0 0) 74 rfl rfl (by kernel_rfl) (by kernel_rfl) (by kernel_rfl) (fun _ _ _ h => h) (by kernel_rfl) (Ext.stable _) (fun _ h => h) (yieldsU_val rfl (fun u hu => by rfl)) ?_
          refine anyU_takeD (i := 4) (v := .agg (bv dd).toArray) 76 rfl rfl (by kernel_rfl) (by kernel_rfl) (by kernel_rfl) (fun _ _ _ h => h) (by kernel_rfl) (Ext.stable _) (fun _ h => h) (yieldsU_of_C (yields_loadD rfl _ rfl db rfl dd HDL.out (fun u hu => D0.out.bel hu))) ?_
          refine anyU_takeD (i := 7) (v := .slice none 0 0) 79 rfl rfl (by kernel_rfl) (by kernel_rfl) (by kernel_rfl) (fun _ _ _ h => h) (by kernel_rfl) (Ext.stable _) (fun _ h => h) (yieldsU_val rfl (fun u hu => by rfl)) ?_
          refine anyU_takeD (i := 8) (v := .slice none 0 0) 80 rfl rfl (by kernel_rfl) (by kernel_rfl) (by kernel_rfl) (fun _ _ _ h => h) (by kernel_rfl) (Ext.stable _) (fun _ h => h) (yieldsU_val rfl (fun u hu => by rfl)) ?_
          (try simp only [Act.put, List.setIfInBounds_toArray, List.set_cons_succ, List.set_cons_zero])
          refine anyU_takeD (i := 9) (v := .int .i64 0) 81 rfl rfl (by kernel_rfl) (by kernel_rfl) (by kernel_rfl) (fun _ _ _ h => h) (by kernel_rfl) (Ext.stable _) (fun _ h => h) (yieldsU_val rfl (fun u hu => by go_simp)) ?_
          refine anyU_takeD (i := 10) (v := .int .i64 0) 82 rfl rfl (by kernel_rfl) (by kernel_rfl) (by kernel_rfl) (fun _ _ _ h => h) (by kernel_rfl) (Ext.stable _) (fun _ h => h) (yieldsU_val rfl (fun u hu => by go_simp; rfl)) ?_
          refine anyU_takeD (i := 11) (v := .slice none (0 / 2) 0) 83 rfl rfl (by kernel_rfl) (by kernel_rfl) (by kernel_rfl) (fun _ _ _ h => h) (by kernel_rfl) (Ext.stable _) (fun _ h => h) (yieldsU_val rfl (fun u hu => by go_simp)) ?_
          refine anyU_takeD (i := 14) (v := .int .i64 0) 86 rfl rfl (by kernel_rfl) (by kernel_rfl) (by kernel_rfl) (fun _ _ _ h => h) (by kernel_rfl) (Ext.stable _) (fun _ h => h) (yieldsU_val rfl (fun u hu => by rfl)) ?_
          (try simp only [Act.put, List.setIfInBounds_toArray, List.set_cons_succ, List.set_cons_zero])
          have EW : Hid (Ext W0 W0) := Lib.hid (Ext.refl W0)
          refine anyU_two 1 5 5 _ _ rfl rfl rfl rfl (by kernel_rfl) ?n1x ?n5x
          case n1x =>
            intro w9 h
            go_wp2_with fail
            change ∃ C' : World → Prop, _ ∧ _ ∧ _ ∧ anyU _ _ _ _ _ _ 5 _ _ _
            generalize hA : World.alloc _ _ = W
            have z0 : W0.heap.size ≤ w9.heap.size := (Ext.trans EW.out h).size
            have O := Lib.hid (show OwnR W W0.heap.size (.slice (some ⟨w9.heap.size, 0, none⟩) 0 0) 0 [] by rw [← hA]; exact ownR_emp w9 _ z0)
            replace EW := Lib.hid (show Ext W0 W by rw [← hA]; exact Ext.alloc (Ext.trans EW.out h) _)
            clear hA h z0
            obtain ⟨e4, he4⟩ : ∃ b, w9.heap.size = b := ⟨_, rfl⟩
            rw [he4] at O ⊢
            clear he4
            refine anchor EW.out ?_
            refine anyU_two 3 5 4 _ _ rfl rfl rfl rfl (by kernel_rfl) ?n3_1x ?n5_1x
            case n3_1x =>
              intro w9 h
              have z0 : W0.heap.size ≤ w9.heap.size := (Ext.trans EW.out h).size
              refine list_appXS rfl rfl (.tmp 73) (.tmp 74) rfl W0.heap.size (.slice (some ⟨e4, 0, none⟩) 0 0) 0 [] rfl (ownR_below O.out h) none 0 0 ps rfl (S0.out.below (Ext.trans EW.out h)) (by omega) (srcD_someT (S0.out.below (Ext.trans EW.out h)) HQS.out) z0 ?_
              intro v1 W o1 g1 l1
              change ∃ C' : World → Prop, _ ∧ _ ∧ _ ∧ anyU _ _ _ _ _ _ 4 _ _ _
              replace EW := Lib.hid (show Ext W0 W from grown_below (Ext.trans EW.out h) g1 z0 (fun g hg => (ownR_lt O.out g hg).1))
              replace O := Lib.hid o1
              clear o1 g1 l1 h z0
              (try simp only [Act.put])
              refine anchor EW.out ?_
              refine anyU_one 5 3 _ rfl rfl (by kernel_rfl) ?_
              intro w9 h
              refine list_build1 (by rfl) (.tmp 76) rfl (bv dd) rfl (by rw [bv_len]; exact HDL.out) ?_
              change ∃ C' : World → Prop, _ ∧ _ ∧ _ ∧ anyU _ _ _ _ _ _ 3 _ _ _
              generalize hA : World.alloc _ _ = W
              have F8 := Lib.hid (show Dg W w9.heap.size dd by rw [← hA]; exact Dg.box w9 HDL.out)
              have NE8 : Hid (Value.ownBlock v1 ≠ some w9.heap.size) := Lib.hid (fun e => by have h1 := (ownR_lt O.out _ e).2; have h2 := h.size; omega)
              replace EW := Lib.hid (show Ext W0 W by rw [← hA]; exact Ext.alloc (Ext.trans EW.out h) _)
              replace O := Lib.hid (show OwnR W W0.heap.size v1 (0 + 0) ([] ++ ps) by rw [← hA]; exact ownR_below (ownR_below O.out h) (bel_alloc1 _ _))
              clear hA h
              obtain ⟨b8, hb_⟩ : ∃ b, w9.heap.size = b := ⟨_, rfl⟩
              rw [hb_] at F8 NE8 ⊢
              clear hb_
              refine anchor EW.out ?_
              refine anyU_one 6 2 _ rfl rfl (by kernel_rfl) ?_
              intro w9 h
              have z0 : W0.heap.size ≤ w9.heap.size := (Ext.trans EW.out h).size
              refine list_appX rfl (.tmp 75) (.tmp 77) rfl W0.heap.size v1 (0 + 0) ([] ++ ps) rfl (ownR_below O.out h) b8 0 1 1 dd rfl (by rw [HDL.out]) (F8.out.bel h).bytes (by omega) z0 ?_
              intro v1 W o1 g1 l1
              change ∃ C' : World → Prop, _ ∧ _ ∧ _ ∧ anyU _ _ _ _ _ _ 2 _ _ _
              replace EW := Lib.hid (show Ext W0 W from grown_below (Ext.trans EW.out h) g1 z0 (fun g hg => (ownR_lt O.out g hg).1))
              obtain ⟨q2, qc2, rfl, hs2, _⟩ := ownR_src o1
              have e1 : 0 + 0 + 1 = 0 + 1 := by omega
              rw [e1] at hs2 ⊢
              have S2 := Lib.hid (show SrcD W q2 (0 + 1) qc2 (ps ++ dd) from hs2)
              clear e1 hs2 o1 g1 l1 h z0 O F8 NE8
              (try simp only [Act.put])
              refine anchor EW.out ?_
              refine anyU_one 12 1 _ rfl rfl (by kernel_rfl) ?_
              intro w9 h
              (try simp only [Act.put])
              go_wp2_with fail
              change ∃ C' : World → Prop, _ ∧ _ ∧ _ ∧ anyU _ _ _ _ _ _ 1 _ _ _
              generalize hA : World.alloc _ _ = W
              have T := Lib.hid (show Blk W w9.heap.size #[.slice none 0 0, .slice q2 (0 + 1) qc2, .slice none (0 / 2) 0] 30 by rw [← hA]; exact Blk.new w9 _ _)
              replace S2 := Lib.hid (show SrcD W q2 (0 + 1) qc2 (ps ++ dd) by rw [← hA]; exact (S2.out.below h).below (bel_alloc1 _ _))
              replace EW := Lib.hid (show Ext W0 W by rw [← hA]; exact Ext.alloc (Ext.trans EW.out h) _)
              clear hA h
              obtain ⟨tb, htb⟩ : ∃ b, w9.heap.size = b := ⟨_, rfl⟩
              rw [htb] at T ⊢
              clear htb
              refine anchor EW.out ?_
              refine anyU_takeD (i := 13) (v := .int .i64 3) 85 rfl rfl (by kernel_rfl) (by kernel_rfl) (by kernel_rfl) (fun _ _ _ h => h) (by kernel_rfl) (Ext.stable _) (fun _ hu => Ext.trans EW.out hu) (yieldsU_val rfl (fun u hu => by go_simp)) ?_
              refine anyU_done (by kernel_rfl) ?_
              intro w9 h
              have EZ := Lib.hid (Ext.trans EW.out h)
              (try simp only [Act.put, List.setIfInBounds_toArray, List.set_cons_succ, List.set_cons_zero])
              go_wp2_with fail
              go_meet
              exact ⟨tb, q2, qc2, rfl, rfl, rfl, Lib.hid ⟨E0.out.ext EZ.out, T.out.below h T.out.lt, S2.out.below h⟩⟩
            case n5_1x =>
              intro w9 h
              refine list_build1 (by rfl) (.tmp 76) rfl (bv dd) rfl (by rw [bv_len]; exact HDL.out) ?_
              change ∃ C' : World → Prop, _ ∧ _ ∧ _ ∧ anyU _ _ _ _ _ _ 4 _ _ _
              generalize hA : World.alloc _ _ = W
              have F8 := Lib.hid (show Dg W w9.heap.size dd by rw [← hA]; exact Dg.box w9 HDL.out)
              have NE8 : Hid (Value.ownBlock (.slice (some ⟨e4, 0, none⟩) 0 0) ≠ some w9.heap.size) := Lib.hid (fun e => by have h1 := (ownR_lt O.out _ e).2; have h2 := h.size; omega)
              replace EW := Lib.hid (show Ext W0 W by rw [← hA]; exact Ext.alloc (Ext.trans EW.out h) _)
              replace O := Lib.hid (show OwnR W W0.heap.size (.slice (some ⟨e4, 0, none⟩) 0 0) 0 [] by rw [← hA]; exact ownR_below (ownR_below O.out h) (bel_alloc1 _ _))
              clear hA h
              obtain ⟨b8, hb_⟩ : ∃ b, w9.heap.size = b := ⟨_, rfl⟩
              rw [hb_] at F8 NE8 ⊢
              clear hb_
              refine anchor EW.out ?_
              refine anyU_one 3 3 _ rfl rfl (by kernel_rfl) ?_
              intro w9 h
              have z0 : W0.heap.size ≤ w9.heap.size := (Ext.trans EW.out h).size
              refine list_appXS rfl rfl (.tmp 73) (.tmp 74) rfl W0.heap.size (.slice (some ⟨e4, 0, none⟩) 0 0) 0 [] rfl (ownR_below O.out h) none 0 0 ps rfl (S0.out.below (Ext.trans EW.out h)) (by omega) (srcD_someT (S0.out.below (Ext.trans EW.out h)) HQS.out) z0 ?_
              intro v1 W o1 g1 l1
              change ∃ C' : World → Prop, _ ∧ _ ∧ _ ∧ anyU _ _ _ _ _ _ 3 _ _ _
              have z8 : b8 < w9.heap.size := Nat.lt_of_lt_of_le F8.out.lt h.size
              have N8 : Hid (v1.ownBlock ≠ some b8) := Lib.hid (fun e => by rcases l1 _ e with h1 | h1; exact NE8.out h1; omega)
              replace F8 := Lib.hid (show Dg W b8 _ from (F8.out.bel h).grown g1 NE8.out)
              replace EW := Lib.hid (show Ext W0 W from grown_below (Ext.trans EW.out h) g1 z0 (fun g hg => (ownR_lt O.out g hg).1))
              replace O := Lib.hid o1
              replace NE8 := N8
              clear z8
              clear o1 g1 l1 h z0
              (try simp only [Act.put])
              refine anchor EW.out ?_
              refine anyU_one 6 2 _ rfl rfl (by kernel_rfl) ?_
              intro w9 h
              have z0 : W0.heap.size ≤ w9.heap.size := (Ext.trans EW.out h).size
              refine list_appX rfl (.tmp 75) (.tmp 77) rfl W0.heap.size v1 (0 + 0) ([] ++ ps) rfl (ownR_below O.out h) b8 0 1 1 dd rfl (by rw [HDL.out]) (F8.out.bel h).bytes (by omega) z0 ?_
              intro v1 W o1 g1 l1
              change ∃ C' : World → Prop, _ ∧ _ ∧ _ ∧ anyU _ _ _ _ _ _ 2 _ _ _
              replace EW := Lib.hid (show Ext W0 W from grown_below (Ext.trans EW.out h) g1 z0 (fun g hg => (ownR_lt O.out g hg).1))
              obtain ⟨q2, qc2, rfl, hs2, _⟩ := ownR_src o1
              have e1 : 0 + 0 + 1 = 0 + 1 := by omega
              rw [e1] at hs2 ⊢
              have S2 := Lib.hid (show SrcD W q2 (0 + 1) qc2 (ps ++ dd) from hs2)
              clear e1 hs2 o1 g1 l1 h z0 O F8 NE8
              (try simp only [Act.put])
              refine anchor EW.out ?_
              refine anyU_one 12 1 _ rfl rfl (by kernel_rfl) ?_
              intro w9 h
              (try simp only [Act.put])
              go_wp2_with fail
              change ∃ C' : World → Prop, _ ∧ _ ∧ _ ∧ anyU _ _ _ _ _ _ 1 _ _ _
              generalize hA : World.alloc _ _ = W
              have T := Lib.hid (show Blk W w9.heap.size #[.slice none 0 0, .slice q2 (0 + 1) qc2, .slice none (0 / 2) 0] 30 by rw [← hA]; exact Blk.new w9 _ _)
              replace S2 := Lib.hid (show SrcD W q2 (0 + 1) qc2 (ps ++ dd) by rw [← hA]; exact (S2.out.below h).below (bel_alloc1 _ _))
              replace EW := Lib.hid (show Ext W0 W by rw [← hA]; exact Ext.alloc (Ext.trans EW.out h) _)
              clear hA h
              obtain ⟨tb, htb⟩ : ∃ b, w9.heap.size = b := ⟨_, rfl⟩
              rw [htb] at T ⊢
              clear htb
              refine anchor EW.out ?_
              refine anyU_takeD (i := 13) (v := .int .i64 3) 85 rfl rfl (by kernel_rfl) (by kernel_rfl) (by kernel_rfl) (fun _ _ _ h => h) (by kernel_rfl) (Ext.stable _) (fun _ hu => Ext.trans EW.out hu) (yieldsU_val rfl (fun u hu => by go_simp)) ?_
              refine anyU_done (by kernel_rfl) ?_
              intro w9 h
              have EZ := Lib.hid (Ext.trans EW.out h)
              (try simp only [Act.put, List.setIfInBounds_toArray, List.set_cons_succ, List.set_cons_zero])
              go_wp2_with fail
              go_meet
              exact ⟨tb, q2, qc2, rfl, rfl, rfl, Lib.hid ⟨E0.out.ext EZ.out, T.out.below h T.out.lt, S2.out.below h⟩⟩
          case n5x =>
            intro w9 h
            refine list_build1 (by rfl) (.tmp 76) rfl (bv dd) rfl (by rw [bv_len]; exact HDL.out) ?_
            change ∃ C' : World → Prop, _ ∧ _ ∧ _ ∧ anyU _ _ _ _ _ _ 5 _ _ _
            generalize hA : World.alloc _ _ = W
            have F8 := Lib.hid (show Dg W w9.heap.size dd by rw [← hA]; exact Dg.box w9 HDL.out)
            replace EW := Lib.hid (show Ext W0 W by rw [← hA]; exact Ext.alloc (Ext.trans EW.out h) _)
            clear hA h
            obtain ⟨b8, hb_⟩ : ∃ b, w9.heap.size = b := ⟨_, rfl⟩
            rw [hb_] at F8 ⊢
            clear hb_
            refine anchor EW.out ?_
            refine anyU_one 1 4 _ rfl rfl (by kernel_rfl) ?_
            intro w9 h
            go_wp2_with fail
            change ∃ C' : World → Prop, _ ∧ _ ∧ _ ∧ anyU _ _ _ _ _ _ 4 _ _ _
            generalize hA : World.alloc _ _ = W
            have z0 : W0.heap.size ≤ w9.heap.size := (Ext.trans EW.out h).size
            have O := Lib.hid (show OwnR W W0.heap.size (.slice (some ⟨w9.heap.size, 0, none⟩) 0 0) 0 [] by rw [← hA]; exact ownR_emp w9 _ z0)
            have z8 : b8 < w9.heap.size := Nat.lt_of_lt_of_le F8.out.lt h.size
            replace EW := Lib.hid (show Ext W0 W by rw [← hA]; exact Ext.alloc (Ext.trans EW.out h) _)
            replace F8 := Lib.hid (show Dg W b8 dd by rw [← hA]; exact (F8.out.bel h).alloc _)
            clear hA h z0
            obtain ⟨e4, he4⟩ : ∃ b, w9.heap.size = b := ⟨_, rfl⟩
            rw [he4] at O z8 ⊢
            clear he4
            have NE8 : Hid (Value.ownBlock (.slice (some ⟨e4, 0, none⟩) 0 0) ≠ some b8) := Lib.hid (by simp [Value.ownBlock]; omega)
            refine anchor EW.out ?_
            refine anyU_one 3 3 _ rfl rfl (by kernel_rfl) ?_
            intro w9 h
            have z0 : W0.heap.size ≤ w9.heap.size := (Ext.trans EW.out h).size
            refine list_appXS rfl rfl (.tmp 73) (.tmp 74) rfl W0.heap.size (.slice (some ⟨e4, 0, none⟩) 0 0) 0 [] rfl (ownR_below O.out h) none 0 0 ps rfl (S0.out.below (Ext.trans EW.out h)) (by omega) (srcD_someT (S0.out.below (Ext.trans EW.out h)) HQS.out) z0 ?_
            intro v1 W o1 g1 l1
            change ∃ C' : World → Prop, _ ∧ _ ∧ _ ∧ anyU _ _ _ _ _ _ 3 _ _ _
            have z8 : b8 < w9.heap.size := Nat.lt_of_lt_of_le F8.out.lt h.size
            have N8 : Hid (v1.ownBlock ≠ some b8) := Lib.hid (fun e => by rcases l1 _ e with h1 | h1; exact NE8.out h1; omega)
            replace F8 := Lib.hid (show Dg W b8 _ from (F8.out.bel h).grown g1 NE8.out)
            replace EW := Lib.hid (show Ext W0 W from grown_below (Ext.trans EW.out h) g1 z0 (fun g hg => (ownR_lt O.out g hg).1))
            replace O := Lib.hid o1
            replace NE8 := N8
            clear z8
            clear o1 g1 l1 h z0
            (try simp only [Act.put])
            refine anchor EW.out ?_
            refine anyU_one 6 2 _ rfl rfl (by kernel_rfl) ?_
            intro w9 h
            have z0 : W0.heap.size ≤ w9.heap.size := (Ext.trans EW.out h).size
            refine list_appX rfl (.tmp 75) (.tmp 77) rfl W0.heap.size v1 (0 + 0) ([] ++ ps) rfl (ownR_below O.out h) b8 0 1 1 dd rfl (by rw [HDL.out]) (F8.out.bel h).bytes (by omega) z0 ?_
            intro v1 W o1 g1 l1
            change ∃ C' : World → Prop, _ ∧ _ ∧ _ ∧ anyU _ _ _ _ _ _ 2 _ _ _
            replace EW := Lib.hid (show Ext W0 W from grown_below (Ext.trans EW.out h) g1 z0 (fun g hg => (ownR_lt O.out g hg).1))
            obtain ⟨q2, qc2, rfl, hs2, _⟩ := ownR_src o1
            have e1 : 0 + 0 + 1 = 0 + 1 := by omega
            rw [e1] at hs2 ⊢
            have S2 := Lib.hid (show SrcD W q2 (0 + 1) qc2 (ps ++ dd) from hs2)
            clear e1 hs2 o1 g1 l1 h z0 O F8 NE8
            (try simp only [Act.put])
            refine anchor EW.out ?_
            refine anyU_one 12 1 _ rfl rfl (by kernel_rfl) ?_
            intro w9 h
            (try simp only [Act.put])
            go_wp2_with fail
            change ∃ C' : World → Prop, _ ∧ _ ∧ _ ∧ anyU _ _ _ _ _ _ 1 _ _ _
            generalize hA : World.alloc _ _ = W
            have T := Lib.hid (show Blk W w9.heap.size #[.slice none 0 0, .slice q2 (0 + 1) qc2, .slice none (0 / 2) 0] 30 by rw [← hA]; exact Blk.new w9 _ _)
            replace S2 := Lib.hid (show SrcD W q2 (0 + 1) qc2 (ps ++ dd) by rw [← hA]; exact (S2.out.below h).below (bel_alloc1 _ _))
            replace EW := Lib.hid (show Ext W0 W by rw [← hA]; exact Ext.alloc (Ext.trans EW.out h) _)
            clear hA h
            obtain ⟨tb, htb⟩ : ∃ b, w9.heap.size = b := ⟨_, rfl⟩
            rw [htb] at T ⊢
            clear htb
            refine anchor EW.out ?_
            refine anyU_takeD (i := 13) (v := .int .i64 3) 85 rfl rfl (by kernel_rfl) (by kernel_rfl) (by kernel_rfl) (fun _ _ _ h => h) (by kernel_rfl) (Ext.stable _) (fun _ hu => Ext.trans EW.out hu) (yieldsU_val rfl (fun u hu => by go_simp)) ?_
            refine anyU_done (by kernel_rfl) ?_
            intro w9 h
            have EZ := Lib.hid (Ext.trans EW.out h)
            (try simp only [Act.put, List.setIfInBounds_toArray, List.set_cons_succ, List.set_cons_zero])
            go_wp2_with fail
            go_meet
            exact ⟨tb, q2, qc2, rfl, rfl, rfl, Lib.hid ⟨E0.out.ext EZ.out, T.out.below h T.out.lt, S2.out.below h⟩⟩
      case rest =>
      obtain ⟨tb, q2, qc2, rfl, rfl, rfl, HE⟩ := hcut
      obtain ⟨wd, hwd⟩ : ∃ u, wc = u := ⟨_, rfl⟩
      rw [hwd] at HE ⊢
      clear hwd R2
      go_wp2_with fail
      go_loopw [86] (fun i wr => ∃ (k3 : Nat), k3 ≤ 3 ∧ i = .int .i64 k3 ∧ Hid (Env3 w wr ib db lb a x dd L jb nn n q c qc ps tb q2 qc2)) (fun i _ => 3 - (intOf i).toNat)
      case atStart => exact ⟨0, by omega, rfl, HE⟩
      case round =>
        obtain ⟨k3, hk3, rfl, R3⟩ := hrel
        clear HE
        by_cases h3 : k3 < 3
        case neg =>
          have R4 := Lib.hid R3.out.e
          clear R3
          go_wp2_with fail
          go_roundw
          case rel => exact ⟨k2 + 1, by omega, by go_num, R4⟩
          case measure => simp [intOf]; omega
        obtain ⟨y, cy, yc, ys, hcell, hys, hyr⟩ : ∃ y cy yc ys, wr.cell? ⟨tb, k3, none⟩ = some (.slice y cy yc) ∧ SrcD wr y cy yc ys ∧ ∀ z ∈ ys, 0 ≤ z ∧ z ≤ 255 := by
          rw [R3.out.t.cell k3]
          rcases (by omega : k3 = 0 ∨ k3 = 1 ∨ k3 = 2) with rfl | rfl | rfl
          · exact ⟨q, c, qc, ps, rfl, R3.out.e.s, HPR.out⟩
          · exact ⟨q2, c + 1, qc2, ps ++ dd, rfl, R3.out.s, rng_append HPR.out HDR.out⟩
          · exact ⟨q, c / 2, qc, _, rfl, srcD_half R3.out.e.s, fun z hz => HPR.out z (List.mem_of_mem_take hz)⟩
        have YS := Lib.hid hys
        have YR := Lib.hid hyr
        obtain ⟨rs, rcode, htop⟩ := isTop_ex i M cy ys dd hys.1
        have HTOP := Lib.hid htop
        have HRL := Lib.hid htop.len
        have EQ := eqDig_same rs htop.len
        clear hys hyr htop
        go_wp2_with (refine list_loadD (by rfl) (.tmp 7) rfl db rfl dd R3.out.e.e.d ?_)
        refine (climbTop_any i M y cy yc ys dd rs rcode wr HTOP.out YS YR HDL HDR (Lib.hid (hk.out.below R3.out.e.e.b))).mono ?_
        rintro e v1 ⟨rfl, hb1⟩
        have P1 := Lib.hid (R3.out.ext hb1)
        have Y1 := Lib.hid (YS.out.below hb1)
        clear hb1 R3 YS hcell
        go_wp2_with (refine list_storeD rfl (.tmp 20) (.tmp 96) rfl v1.heap.size rfl rs rfl HRL.out _ (Dg.new v1) ?_)
        intro v2 d2 k2'
        have K2 : Below v1.heap.size v1 v2 := (bel_alloc1 v1 _).trans (k2'.below (Nat.le_refl _))
        have P2 := Lib.hid (P1.out.ext K2)
        have Y2 := Lib.hid (Y1.out.below K2)
        have X2 := Lib.hid d2
        clear K2 k2' d2 P1 Y1
        obtain ⟨xb, hxb⟩ : ∃ b, v1.heap.size = b := ⟨_, rfl⟩
        rw [hxb] at X2 ⊢
        clear hxb
        go_wp2_with (refine list_loadD (by rfl) (.tmp 7) rfl db rfl dd P2.out.e.e.d ?_)
        refine (rclimbTop_any i M y cy yc ys dd rs rcode v2 HTOP.out Y2 YR HDL HDR (Lib.hid (hk.out.below P2.out.e.e.b))).mono ?_
        rintro e v3 ⟨rfl, hb3⟩
        have P3 := Lib.hid (P2.out.ext hb3)
        have X3 := Lib.hid (X2.out.bel hb3)
        clear hb3 P2 Y2 X2
        go_wp2_with (refine list_storeD rfl (.tmp 22) (.tmp 104) rfl v3.heap.size rfl rs rfl HRL.out _ (Dg.new v3) ?_)
        intro v4 d4 k4'
        have K4 : Below v3.heap.size v3 v4 := (bel_alloc1 v3 _).trans (k4'.below (Nat.le_refl _))
        have P4 := Lib.hid (P3.out.ext K4)
        have X4 := Lib.hid (X3.out.bel K4)
        have Z4 := Lib.hid d4
        clear K4 k4' d4 P3 X3
        obtain ⟨yb, hyb⟩ : ∃ b, v3.heap.size = b := ⟨_, rfl⟩
        rw [hyb] at Z4 ⊢
        clear hyb
        go_wp2_with (first
          | (refine list_loadD (by rfl) (.tmp 20) rfl xb rfl rs X4.out ?_)
          | (refine list_loadD (by rfl) (.tmp 22) rfl yb rfl rs Z4.out ?_))
        go_roundw
        case rel => exact ⟨k3 + 1, by omega, by go_num, P4⟩
        case measure => simp [intOf]; omega

namespace digestTreeSpec
theorem readable : ∀ t ∈ Tryd.f4.params.toList, Tryd.prog.readableRec t = true ∧ t < Tryd.prog.types.size := by
  rw [Tryd.params4]
  intro t ht
  simp only [List.mem_cons, List.not_mem_nil, or_false] at ht
  rcases ht with rfl | rfl | rfl | rfl
  all_goals exact ⟨by kernel_rfl, by decide +kernel⟩

set_option maxRecDepth 100000 in
theorem lifted (os : Os) (started : os.Started) (H : Type) (enc : TypeId × Value → H) :
    ReturnsInHanded {} Tryd.checked os 4 .any (fun w args => (Rows.digestTreeSpecSpec.pre enc Tryd.prog Tryd.f4 [] false w args ∧ laidMetH Tryd.prog laidK w) ∧ sizedMet enc Tryd.prog Tryd.f4 (OpenSpec.ofChange Rows.digestTreeSpecSpec) false w args)
      (Rows.digestTreeSpecSpec.post enc Tryd.prog Tryd.f4 false true false false) := by
  refine returnsInHanded_of_change_and (C := Tryd.checked) (X := fun w _ => laidMetH Tryd.prog laidK w) (fun _ _ _ hh h => h.of_heap hh) own_knob started (by kernel_rfl) Tryd.func4
    (ChangeSpec.witness_shaped (enc := enc) (C := Tryd.checked) (os := os) (X := fun w _ => laidMetH Tryd.prog laidK w) false (World.doorLaid Tryd.prog 400 os) #[.slice none 0 0, .int .i64 0, .int .i64 0, .agg (bv (List.replicate 32 0)).toArray] 8 rfl (World.shaped_of_RefB (by kernel_rfl) (by kernel_rfl)) (by kernel_rfl) (by kernel_rfl) (by kernel_rfl) (door_met os _)) ?_
  intro W base args ds gs before hval0 hW _ _ hL _
  have hval : ∀ (j : Nat) t v, Tryd.f4.params[j]? = some t → args[j]? = some v → Value.okWide Tryd.prog W .any base t v := hval0
  have hW' := hW
  obtain ⟨p, q, hA0, hV, rfl, hfz, hnd⟩ := hW
  have hA : DataW.TrodAll enc Tryd.prog W 0 (fun _ => true) true Tryd.f4.params.toList args.toList ds p := hA0
  rw [Tryd.params4] at hA hval
  obtain ⟨v0, vs0, d0, ds0, p0, q0, hargs, rfl, rfl, h0, r0⟩ := trodAll_cons hA
  obtain ⟨v1, vs1, d1, ds1, p1, q1, rfl, rfl, rfl, h1, r1⟩ := trodAll_cons r0
  obtain ⟨v2, vs2, d2, ds2, p2, q2, rfl, rfl, rfl, h2, r2⟩ := trodAll_cons r1
  obtain ⟨v3, vs3, d3, ds3, p3, q3, rfl, rfl, rfl, h3, r3⟩ := trodAll_cons r2
  obtain ⟨rfl, rfl, rfl⟩ := trodAll_nil r3
  obtain rfl : args = #[v0, v1, v2, v3] := by cases args; simp_all
  obtain ⟨rfl, rfl⟩ := trodVars_none hV
  obtain ⟨s0, n0, c0, z0, rfl, w0, x0, y0, u0⟩ := open_src Tryd.underlying22 Tryd.underlying5 (by kernel_rfl) (hval 0 22 v0 rfl rfl) h0
  obtain ⟨a1, rfl, rfl, rfl, w1⟩ := open_int Tryd.underlying3 (hval 1 3 v1 rfl rfl) h1
  obtain ⟨a2, rfl, rfl, rfl, w2⟩ := open_int Tryd.underlying3 (hval 2 3 v2 rfl rfl) h2
  obtain ⟨z3, rfl, w3, x3⟩ := open_dig Tryd.underlying26 Tryd.underlying5 (by kernel_rfl) (by kernel_rfl) (hval 3 26 v3 rfl rfl) h3
  have hK := of_laid hL
  clear hA0 hval0
  refine (digestTreeSpec_walk s0 n0 c0 z0 z3 a1 a2 W (Lib.hid w0) (Lib.hid x0) (by unfold maxLen at u0; omega) (Lib.hid w3) (Lib.hid x3) (Lib.hid hK)).mono fun e W' ⟨he, hb⟩ => ?_
  subst he
  exact ⟨_, rfl, law_post laid_out readable rfl rfl Tryd.underlying4 hW' rfl rfl rfl hb⟩

theorem over : Rows.digestTreeSpecRow.holds Tryd.pinned (OpenSpec.ofChange Rows.digestTreeSpecSpec) :=
  OpenClaim.holds_of_wide 4 Tryd.f4 rfl rfl rfl rfl rfl rfl rfl ⟨rfl, rfl, rfl, rfl, rfl⟩ rfl rfl rfl rfl rfl (by kernel_rfl) Tryd.func4 (by kernel_rfl)
    (of_decide_eq_true (by kernel_rfl)) (by unfold Func.isWrapper; first | (rw [if_pos (by decide +kernel)]; kernel_rfl) | (rw [if_neg (by decide +kernel)]; exact ⟨rfl, rfl⟩))
    (fun os started H enc _ => lifted os started H enc)

/-- the statement: the tied card -/
theorem proved : Rows.DigestTreeSpecCardSaid :=
  Claim7.holds_tied_plain_at .later [] [.data] true (true, "3cbd8a75db85d0d7a91da629822e7c026b5a1beeafa1458dde1bbca6aeb395d6") false
    over (fun _ h => by cases h) (by kernel_rfl) (fun _ h => by cases h) digestTreeSpec_row_tie rfl ⟨rfl, rfl⟩ (by kernel_rfl) rfl
    (fun f fn hf hfn => by
      obtain rfl : f = 4 := Option.some.inj ((show Tryd.prog.funcNamed "franking/frankinglaw02.DigestTreeSpec" = some 4 by kernel_rfl).symm.trans hf) |>.symm
      obtain rfl : fn = Tryd.f4 := (Option.some.inj (Tryd.func4.symm.trans hfn)).symm
      exact ⟨by kernel_rfl, fun j t ht => by
        rw [Tryd.params4] at ht
        have hm : t ∈ [22, 3, 3, 26] := by simpa using Array.mem_of_getElem? ht
        have hall : ([22, 3, 3, 26].all fun u => !Tryd.prog.wantsStandIn u) = true := by kernel_rfl
        exact (show Tryd.prog.wantsStandIn t = false by simpa using List.all_eq_true.1 hall t hm)⟩)
    (by kernel_rfl)
end digestTreeSpec
end Go.Proofs.YtmheblpgofeafaaDoor
