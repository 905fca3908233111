/- Words that are sealed for several keys, sealed again, stripped of each secret in any order, are what is read. No condition. -/
import Derived.Test.YtbmeljkdemdloaaElgOpensArg
import Derived.BigRegion
import Derived.BigQuiet
import Derived.Deep.DeepCutAuto
namespace Go.Proofs.Ytbmeljkdemdloaa
open Go.ChangeShapes Go.WideShapes Go.ChangeAt Go.RowKit Go.Shelf
set_option linter.unusedVariables false
set_option linter.unusedSimpArgs false

theorem own_set {w : World} {B b o : Nat} {v x : Value} {zs : List Int} (h : Own w B v zs) (hb : b < B) : Own (w.setCell ⟨b, o, none⟩ x) B v zs := by
  refine World.ownsRow.kept (row := some b) h ⟨rfl, rfl, rfl, by simp, fun i _ hn => Below.heap_setCell w ⟨b, o, none⟩ x i (fun e => hn (by rw [e]))⟩ ?_
  cases hv : v.ownBlock with
  | none => exact .inl rfl
  | some g => exact .inr (by intro e; cases e; have := (World.ownsRow.lt h) _ hv; omega)
def Here (w W wr : World) (bs : Nat) (v : Value) (L : List Int) (n0 n1 n2 y0 y1 y2 y3 y4 y5 : Int) : Prop :=
  Own wr W.heap.size v L ∧ Blk wr bs #[.int .i64 y0, .int .i64 y1, .int .i64 y2, .int .i64 y3, .int .i64 y4, .int .i64 y5] 34 ∧ Blk wr w.heap.size #[.int .i64 n0, .int .i64 n1, .int .i64 n2] 30 ∧ Below w.heap.size w wr ∧ W.heap.size ≤ wr.heap.size ∧ bs < W.heap.size ∧ w.heap.size ≤ bs
theorem Here.below {w W wr wr' : World} {bs : Nat} {v : Value} {L : List Int} {n0 n1 n2 y0 y1 y2 y3 y4 y5 : Int} (h : Here w W wr bs v L n0 n1 n2 y0 y1 y2 y3 y4 y5) (k : Below wr.heap.size wr wr') : Here w W wr' bs v L n0 n1 n2 y0 y1 y2 y3 y4 y5 :=
  ⟨h.1.below k, h.2.1.below k h.2.1.lt, h.2.2.1.below k h.2.2.1.lt, bel_trans h.2.2.2.1 k, Nat.le_trans h.2.2.2.2.1 k.size, h.2.2.2.2.2⟩
theorem here_one {w W wr : World} {bs o : Nat} {v x : Value} {L : List Int} {n0 n1 n2 : Int} {c : Array Value} (hw : w.heap.size < bs) (h : Own wr W.heap.size v L ∧ Blk wr bs c 34 ∧ Blk wr w.heap.size #[.int .i64 n0, .int .i64 n1, .int .i64 n2] 30 ∧ Below w.heap.size w wr ∧ W.heap.size ≤ wr.heap.size ∧ bs < W.heap.size ∧ w.heap.size ≤ bs) :
    Own (wr.setCell ⟨bs, o, none⟩ x) W.heap.size v L ∧ Blk (wr.setCell ⟨bs, o, none⟩ x) bs (c.setIfInBounds o x) 34 ∧ Blk (wr.setCell ⟨bs, o, none⟩ x) w.heap.size #[.int .i64 n0, .int .i64 n1, .int .i64 n2] 30 ∧ Below w.heap.size w (wr.setCell ⟨bs, o, none⟩ x) ∧ W.heap.size ≤ (wr.setCell ⟨bs, o, none⟩ x).heap.size ∧ bs < W.heap.size ∧ w.heap.size ≤ bs :=
  ⟨own_set h.1 h.2.2.2.2.2.1, h.2.1.set o x, h.2.2.1.other o x (by omega), h.2.2.2.1.setCell (p := ⟨bs, o, none⟩) h.2.2.2.2.2.2 x, by simpa using h.2.2.2.2.1, h.2.2.2.2.2⟩
theorem here_put {w W wr u1 : World} {bs : Nat} {v : Value} {L : List Int} {n0 n1 n2 y0 y1 y2 y3 y4 y5 z0 z1 z2 z3 z4 z5 : Int} (hw : w.heap.size < bs) (h : Here w W wr bs v L n0 n1 n2 y0 y1 y2 y3 y4 y5) (k : Below wr.drew.heap.size wr.drew u1) :
    Here w W ((((((u1.setCell ⟨bs, 0, none⟩ (.int .i64 z0)).setCell ⟨bs, 1, none⟩ (.int .i64 z1)).setCell ⟨bs, 2, none⟩ (.int .i64 z2)).setCell ⟨bs, 3, none⟩ (.int .i64 z3)).setCell ⟨bs, 4, none⟩ (.int .i64 z4)).setCell ⟨bs, 5, none⟩ (.int .i64 z5)) bs v L n0 n1 n2 z0 z1 z2 z3 z4 z5 := by
  have h1 := h.below (((Below.refl wr.heap.size wr).drew).trans k)
  have h2 := here_one (o := 5) (x := .int .i64 z5) hw (here_one (o := 4) (x := .int .i64 z4) hw (here_one (o := 3) (x := .int .i64 z3) hw (here_one (o := 2) (x := .int .i64 z2) hw (here_one (o := 1) (x := .int .i64 z1) hw (here_one (o := 0) (x := .int .i64 z0) hw h1)))))
  unfold Here
  simpa using h2
theorem own_caps {w : World} {B : Nat} {p : Option Addr} {n c : Nat} {L : List Int} (h : Own w B (.slice p n c) L) : n ≤ c ∧ c ≤ maxLen := by
  obtain ⟨h1, h2⟩ := h
  rcases h2 with ⟨he, h0⟩ | ⟨g, cap, cur, he, hBg, hg, hn, hm, hs, ht⟩
  · cases he; exact ⟨by omega, by unfold maxLen; omega⟩
  · cases he; exact ⟨hn, hm⟩
theorem own_mono {w : World} {B B' : Nat} {v : Value} {L : List Int} (h : Own w B v L) (hb : B' ≤ B) : Own w B' v L := by
  obtain ⟨h1, h2⟩ := h
  refine ⟨h1, ?_⟩
  rcases h2 with h2 | ⟨g, cap, cur, he, hBg, r⟩
  · exact .inl h2
  · exact .inr ⟨g, cap, cur, he, Nat.le_trans hb hBg, r⟩
theorem Here.row {w W wr wr' : World} {bs : Nat} {v v' : Value} {L L' : List Int} {n0 n1 n2 y0 y1 y2 y3 y4 y5 : Int} (h : Here w W wr bs v L n0 n1 n2 y0 y1 y2 y3 y4 y5) (k : Below wr.heap.size wr wr') (o : Own wr' wr.heap.size v' L') : Here w W wr' bs v' L' n0 n1 n2 y0 y1 y2 y3 y4 y5 :=
  ⟨own_mono o h.2.2.2.2.1, (h.below k).2⟩
theorem bel_first {w2 w3 : World} {o : Obj} (h : (w2.alloc o).drew.grownBy w3 (Value.ownBlock (.slice (some ⟨w2.heap.size, 0, none⟩) 0 0))) : Below w2.heap.size w2 w3 :=
  ((bel_alloc1 w2 o).drew).trans ⟨h.os, h.tape, h.output, h.size, fun i hi' => h.block i (by simp; omega) (by simp [Value.ownBlock]; omega)⟩
theorem bel_second {w2 w3 w4 : World} {v : Value} {n : Nat} {xs : List Value} {t : TypeId} (k : Below w2.heap.size w2 w3) (ho : w3.ownsRow w2.heap.size t 1 v n xs) (h : w3.grownBy w4 v.ownBlock) : Below w2.heap.size w2 w4 :=
  k.trans ⟨h.os, h.tape, h.output, h.size, fun i hi' => h.block i (by have := k.size; omega) (by intro e; have := (World.ownsRow.lt ho) i e.symm; omega)⟩
def lenOf : Value → Nat
  | .slice _ n _ => n
  | _ => 0
set_option maxRecDepth 100000 in
set_option maxHeartbeats 40000000 in
theorem elgamalOpens_walk (p : Option Addr) (n cap : Nat) (zs : List Int) (n0 n1 n2 r0 r1 r2 : Int) (pa : Option Addr) (na ca : Nat) (ts : List T3) (po : Option Addr) (no co : Nat) (os : List Int) (w : World)
    (hz : Hid (IntsV w p n cap zs)) (hcap : n ≤ cap) (hmax : cap ≤ maxLen) (hnil : p = none → cap = 0) (ha : Hid (ThreesV w pa na ts)) (ho : Hid (BytesV w po no os)) :
    Calls Try.prog 5 #[.slice p n cap, .agg #[.int .i64 n0, .int .i64 n1, .int .i64 n2], .agg #[.int .i64 r0, .int .i64 r1, .int .i64 r2], .slice pa na ca, .slice po no co] w fun e w' => e = .returned (.bool true) ∧ Below w.heap.size w w' := by
  have hmax' : cap ≤ 9223372036854775807 := by unfold maxLen at hmax; omega
  obtain ⟨i0, hi, hz0, hz1, hz2⟩ := info_parts info3
  have H1 := Lib.hid hz.out.1; have HA1 := Lib.hid ha.out.1; have HO1 := Lib.hid ho.out.1
  have ma := ha.out.2.1; have mo := ho.out.2.1
  go_enter Try.func5, Try.ntmps5
  go_wp2_with fail
  refine (sane10_any _).mono ?_; rintro e w1 ⟨rfl, hb1⟩
  obtain ⟨V, hV⟩ : ∃ V, (w.alloc (.cells #[.int .i64 n0, .int .i64 n1, .int .i64 n2] 30)).alloc (.cells #[.int .i64 r0, .int .i64 r1, .int .i64 r2] 29) = V := ⟨_, rfl⟩
  have kv : Below w.heap.size w V := by rw [← hV]; exact ((Below.refl w.heap.size w).alloc (Nat.le_refl _) _).alloc (by simp) _
  have v : Blks V [(w.heap.size + 1, #[.int .i64 r0, .int .i64 r1, .int .i64 r2], 29), (w.heap.size, #[.int .i64 n0, .int .i64 n1, .int .i64 n2], 30)] := by
    rw [← hV]; have h := ((Blks.nil w).box #[.int .i64 n0, .int .i64 n1, .int .i64 n2] 30).box #[.int .i64 r0, .int .i64 r1, .int .i64 r2] 29
    simp only [World.size_alloc] at h; exact h
  rw [hV] at hb1
  have h1 := Lib.hid (kv.trans (hb1.mono kv.size))
  have K1 := Lib.hid (v.below hb1)
  clear v kv hb1 hV
  obtain ⟨f0, f1, f2⟩ := blk3_facts K1.out.2.1
  have l1 := K1.out.2.1.lt
  dsimp only at l1
  cases hr : rightB zs with
  | false =>
    have HR := Lib.hid hr; clear hr
    go_wp2_with fail
    refine (right_any p n cap zs _ (Lib.hid (hz.out.below h1.out))).mono ?_; rintro e w' ⟨rfl, rfl⟩; rw [HR.out]
    go_wp2_with fail
    go_ret
    exact ⟨rfl, h1.out⟩
  | true =>
  have HR := Lib.hid hr; clear hr
  have hr2 : zs.all secB = true ∧ zs.length ≤ 5 := by have h := HR.out; unfold rightB at h; simpa using h
  have HS := Lib.hid hr2.1
  have hn5 : n ≤ 5 := by have := H1.out; omega
  clear hr2
  cases hw : words3 n0 n1 n2 with
  | false =>
    have HW := Lib.hid hw; clear hw
    go_wp2_with fail
    refine (right_any p n cap zs _ (Lib.hid (hz.out.below h1.out))).mono ?_; rintro e w' ⟨rfl, rfl⟩; rw [HR.out]
    go_wp2_with fail
    refine (words_any _ _ _ _).mono ?_; rintro e w2 ⟨rfl, hb⟩; rw [HW.out]
    have h2 := Lib.hid (bel_trans h1.out hb); clear hb
    go_wp2_with fail
    go_ret
    exact ⟨rfl, h2.out⟩
  | true =>
  have HW := Lib.hid hw; clear hw
  by_cases hna : 4 < na
  · have hna' : (4 : Int) < (na : Int) := by omega
    clear hna
    go_wp2_with fail
    refine (right_any p n cap zs _ (Lib.hid (hz.out.below h1.out))).mono ?_; rintro e w' ⟨rfl, rfl⟩; rw [HR.out]
    go_wp2_with fail
    refine (words_any _ _ _ _).mono ?_; rintro e w2 ⟨rfl, hb⟩; rw [HW.out]
    have h2 := Lib.hid (bel_trans h1.out hb); clear hb
    go_wp2_with fail
    go_ret
    exact ⟨rfl, h2.out⟩
  have hna' : (na : Int) ≤ 4 := by omega
  have hna4 : na ≤ 4 := by omega
  clear hna
  go_wp2_with fail
  refine (right_any p n cap zs _ (Lib.hid (hz.out.below h1.out))).mono ?_; rintro e w' ⟨rfl, rfl⟩; rw [HR.out]
  go_wp2_with fail
  refine (words_any _ _ _ _).mono ?_; rintro e w2 ⟨rfl, hb⟩; rw [HW.out]
  have h2 := Lib.hid (bel_trans h1.out hb)
  have K2 := Lib.hid (K1.out.below hb); clear hb f0 f1 f2 l1
  go_wp2_with fail
  obtain ⟨J, HJ⟩ : ∃ J, Hid (joinZ (zs.map pubZ) = J) := ⟨_, Lib.hid rfl⟩
  refine (keys_any p n cap zs _ (Lib.hid (hz.out.below h2.out)) HS hn5).mono ?_
  rintro e w3 ⟨v3, rfl, hb⟩
  rw [HJ.out]
  have h3 := Lib.hid (bel_trans h2.out hb)
  have K3 := Lib.hid (K2.out.below hb); clear hb
  obtain ⟨x0, x1, x2, x3, x4, x5, HX⟩ : ∃ x0 x1 x2 x3 x4 x5 : Int, Hid (sealR J n0 n1 n2 r0 r1 r2 = ((x0, x1), (x2, x3), (x4, x5))) := ⟨_, _, _, _, _, _, Lib.hid rfl⟩
  have HXE : Hid (sealE J n0 n1 n2 = 0) := Lib.hid (sealE_ok (by rw [← HJ.out]; exact pubs_elB HS.out) HW.out)
  obtain ⟨f0, f1, f2⟩ := blk3_facts K3.out.1
  obtain ⟨g0, g1, g2⟩ := blk3_facts K3.out.2.1
  have l1 := K3.out.1.lt; have l2 := K3.out.2.1.lt
  dsimp only at l1 l2
  go_wp2_with fail
  refine (seal_c J n0 n1 n2 r0 r1 r2 x0 x1 x2 x3 x4 x5 0 _ HX.out HXE.out).mono ?_; rintro e w4 ⟨rfl, hb⟩
  have K4 := Lib.hid (K3.out.below hb)
  have h4 := Lib.hid (bel_trans h3.out hb); clear hb f0 f1 f2 g0 g1 g2 l1 l2
  go_upto_region 9 with fail
  have KS := Lib.hid (K4.out.box #[.int .i64 x0, .int .i64 x1, .int .i64 x2, .int .i64 x3, .int .i64 x4, .int .i64 x5] 34)
  obtain ⟨W, hW⟩ : ∃ W, w4.alloc (.cells #[.int .i64 x0, .int .i64 x1, .int .i64 x2, .int .i64 x3, .int .i64 x4, .int .i64 x5] 34) = W := ⟨_, rfl⟩
  have HBW := Lib.hid (show Below w4.heap.size w4 W by rw [← hW]; exact bel_alloc1 _ _)
  have hsz : w4.heap.size < W.heap.size := by rw [← hW]; simp
  have h5 := Lib.hid (show Below w.heap.size w W from bel_trans h4.out HBW.out)
  rw [hW] at KS ⊢
  clear hW
  go_cut [16] (fun s16 wx => Hid (Own wx W.heap.size s16 zs) ∧ Hid (Below W.heap.size W wx))
  case first =>
    cases p with
    | none =>
      obtain rfl := hnil rfl
      obtain rfl : n = 0 := by omega
      have hnz : zs = [] := List.eq_nil_of_length_eq_zero (by rw [← H1.out])
      go_wp2_with fail
      go_meet
      rw [hnz]
      exact ⟨Lib.hid (World.ownsRow_made W (base := W.heap.size) (e := 3) (size := 1) #[] 0 (Nat.le_refl _) (by unfold maxLen; omega) rfl), Lib.hid (bel_alloc1 W _)⟩
    | some ad =>
      obtain ⟨b, off, spot⟩ := ad
      have hsp : n ≠ 0 → spot = none := by
        intro h0
        rcases (hz.out.below h5.out).2.2 with h | ⟨b', off', he, _⟩
        · omega
        · cases he; rfl
      have HN : Hid (∀ X : World, Below W.heap.size W X → ∀ j u, (ints zs)[j]? = some u → X.cell? ((⟨b, off, spot⟩ : Addr).add j) = some u) := Lib.hid (by
        intro X hX j u hu
        rw [List.getElem?_map] at hu
        cases hg : zs[j]? with
        | none => rw [hg] at hu; cases hu
        | some z =>
          rw [hg] at hu; cases hu
          have hjn : j < n := by have := (List.getElem?_eq_some_iff.1 hg).1; have := H1.out; omega
          obtain rfl := hsp (by omega)
          obtain ⟨b', off', he, _, hc⟩ := ((hz.out.below h5.out).below hX).at hjn
          cases he
          rw [add_none, hc, List.getD_eq_getElem?_getD, hg]; rfl)
      have HU : Hid (∀ u ∈ ints zs, u.oneCell' = true) := Lib.hid (by intro u hu; obtain ⟨z, _, rfl⟩ := List.mem_map.1 hu; rfl)
      have HL : Hid ((ints zs).length = n * 1) := Lib.hid (by rw [List.length_map, ← H1.out]; omega)
      go_wp2_with (at_builtin; refine wpList_append_own _ rfl (.tmp 58) (.tmp 59) 22 rfl W.heap.size 3 i0 (.int .i64 0) 1 8 Try.underlying22 hi hz0 hz1 hz2 rfl (by decide) (.slice (some ⟨W.heap.size, 0, none⟩) 0 0) 0 [] rfl ?c0 ⟨b, off, spot⟩ n cap (ints zs) rfl HL.out ?c1 HU.out ?c3 ?c4 ?c5 ?_)
      case c0 => exact World.ownsRow_made W (base := W.heap.size) (e := 3) (size := 1) #[] 0 (Nat.le_refl _) (by unfold maxLen; omega) rfl
      case c1 => exact HN.out _ (bel_alloc1 _ _)
      case c3 => unfold maxLen; omega
      case c4 => omega
      case c5 => simp
      intro v2 w5 hown hg _
      go_wp2_with fail
      go_meet
      refine ⟨Lib.hid (by unfold Own; rw [show zs.length = 0 + n by rw [← H1.out]; omega]; simpa using hown), Lib.hid ((bel_alloc1 W _).trans ⟨hg.os, hg.tape, hg.output, hg.size, fun i hi' => hg.block i (by simp; omega) (by simp [Value.ownBlock]; omega)⟩)⟩
  case rest =>
  obtain ⟨HOW, HBX⟩ := hcut
  have HH0 : Hid (Here w W wc w4.heap.size u16 zs n0 n1 n2 x0 x1 x2 x3 x4 x5) := Lib.hid ⟨HOW.out, (KS.out.below HBX.out).1, (KS.out.below HBX.out).2.2.1, h5.out.trans (HBX.out.mono h5.out.size), HBX.out.size, hsz, h4.out.size⟩
  have HP0 : Hid (sealR (joinZ (zs.map pubZ)) n0 n1 n2 r0 r1 r2 = ((x0, x1), (x2, x3), (x4, x5))) := by rw [HJ.out]; exact HX
  have hwb : w.heap.size < w4.heap.size := K4.out.2.1.lt
  obtain ⟨bs, hbs⟩ : ∃ bs, w4.heap.size = bs := ⟨_, rfl⟩
  rw [hbs] at HH0 hwb ⊢
  obtain ⟨B, hB⟩ : ∃ B, W.heap.size = B := ⟨_, rfl⟩
  clear hsz HBX HOW HBW KS K4 K3 K2 K1 h1 h2 h3 h4 h5 HX HXE HJ hbs hB
  go_wp2_with fail
  go_loopw [16, 17, 15] (fun l i e wr => ∃ (v : Value) (k : Nat) (L : List Int) (P0 P1 P2 y0 y1 y2 y3 y4 y5 : Int), v = l ∧ i = .int .i64 k ∧ k ≤ 16 ∧ (k + L.length ≤ 5 ∨ k ≤ na ∧ L.length = 0) ∧ e = .int .i64 0 ∧ L.length ≤ 5 ∧ lenOf v = L.length ∧ Hid (L.all secB = true) ∧ Hid (sealR (joinZ (L.map pubZ)) n0 n1 n2 P0 P1 P2 = ((y0, y1), (y2, y3), (y4, y5))) ∧ Hid (Here w W wr bs v L n0 n1 n2 y0 y1 y2 y3 y4 y5)) (fun l i _ _ => lenOf l + (na - (intOf i).toNat))
  case atStart =>
    obtain ⟨q, cq, rfl, _⟩ := HH0.out.1.intsV
    exact ⟨_, 0, zs, r0, r1, r2, x0, x1, x2, x3, x4, x5, rfl, rfl, by omega, by have := H1.out; omega, rfl, by have := H1.out; omega, rfl, HS, HP0, HH0⟩
  case round =>
    obtain ⟨v, k, L, P0, P1, P2, y0, y1, y2, y3, y4, y5, rfl, rfl, hk16, hkna, rfl, hL5, hlv, HLS, HPS, HH⟩ := hrel
    obtain ⟨q, cq, rfl, hV⟩ := HH.out.1.intsV
    obtain ⟨M, hM⟩ : ∃ M, L.length = M := ⟨_, rfl⟩
    rw [hM] at hV hL5 hlv hkna
    have HM := Lib.hid hM; have HV := Lib.hid hV
    rw [hM] at HH ⊢
    clear hM hV
    by_cases hend : M = 0 ∧ na ≤ k
    · obtain ⟨hM0, hk⟩ := hend
      subst hM0
      have hL : L = [] := List.eq_nil_of_length_eq_zero HM.out
      have hrd := seal_read (n0 := n0) (n1 := n1) (n2 := n2) HW.out P0 P1 P2
      have hp := HPS.out
      have hj0 : joinZ [] = 1 := by decide +kernel
      rw [hL, List.map_nil, hj0] at hp
      rw [hp] at hrd
      clear hL hj0
      have R1 := Lib.hid hrd.1; have R2 := Lib.hid hrd.2
      have R3 : Hid (chkE y0 y1 y2 y3 y4 y5 = 0) := Lib.hid hrd.2
      clear hrd hp
      have hk' : (na : Int) ≤ (k : Int) := by omega
      obtain ⟨a0, a1, a2, a3, a4, a5, _⟩ := blk6_facts HH.out.2.1
      have l1 := HH.out.2.1.lt
      clear hkna hk16 hlv hL5 hnil hcap hmax hmax'
      go_wp2_with fail
      refine (read_c y0 y1 y2 y3 y4 y5 n0 n1 n2 0 _ R1.out R2.out).mono ?_; rintro e w9 ⟨rfl, hb⟩
      have HK := Lib.hid (show Blks w9 [(bs, _, _), (w.heap.size, _, _)] from ⟨HH.out.2.1.below hb HH.out.2.1.lt, HH.out.2.2.1.below hb HH.out.2.2.1.lt, trivial⟩)
      have h9 := Lib.hid (bel_trans HH.out.2.2.2.1 hb)
      clear hb a0 a1 a2 a3 a4 a5 l1
      have HK2 := Lib.hid (HK.out.box #[.int .i64 n0, .int .i64 n1, .int .i64 n2] 30)
      obtain ⟨W9, hW9⟩ : ∃ X, w9.alloc (.cells #[.int .i64 n0, .int .i64 n1, .int .i64 n2] 30) = X := ⟨_, rfl⟩
      have h10 := Lib.hid (show Below w.heap.size w W9 by rw [← hW9]; exact h9.out.alloc h9.out.size _)
      go_upto_region 27 with fail
      rw [hW9] at HK2
      have hs9 : w9.heap.size < W9.heap.size := by rw [← hW9]; simp
      clear hW9
      obtain ⟨f0, f1, f2⟩ := blk3_facts HK2.out.1
      obtain ⟨a0, a1, a2, a3, a4, a5, _⟩ := blk6_facts HK2.out.2.1
      obtain ⟨g0, g1, g2⟩ := blk3_facts HK2.out.2.2.1
      have l1 := HK2.out.2.1.lt; have l2 := HK2.out.2.2.1.lt
      dsimp only at l1 l2
      go_wp2_with fail
      refine (check_any y0 y1 y2 y3 y4 y5 _).mono ?_; rintro e w10 ⟨rfl, hb⟩
      rw [R3.out]
      have h11 := Lib.hid (bel_trans h10.out hb); clear hb
      go_wp2_with fail
      go_ret
      exact ⟨rfl, h11.out⟩
    · have hgo : (0 : Int) < M ∨ (k : Int) < na := by omega
      have hka : (k : Int) + 1 ≤ 17 := by omega
      by_cases hM0 : M = 0
      · have hk0 : (k : Int) < na := by omega
        subst hM0
        clear hgo hend
        have hkn : k < na := by omega
        clear hkna
        have hpl := seal_plus (pubs_elB HLS.out) HW.out P0 P1 P2
        obtain ⟨ba, oa, hpa, hba, q0, q1, q2⟩ := (ha.out.below HH.out.2.2.2.1).at hkn
        subst hpa
        obtain ⟨T0, hT0⟩ : ∃ T, (ts.getD k (0, 0, 0)).1 = T := ⟨_, rfl⟩
        obtain ⟨T1, hT1⟩ : ∃ T, (ts.getD k (0, 0, 0)).2.1 = T := ⟨_, rfl⟩
        obtain ⟨T2, hT2⟩ : ∃ T, (ts.getD k (0, 0, 0)).2.2 = T := ⟨_, rfl⟩
        rw [hT0] at q0; rw [hT1] at q1; rw [hT2] at q2
        have HQ0 := Lib.hid q0; have HQ1 := Lib.hid q1; have HQ2 := Lib.hid q2
        obtain ⟨z0, z1, z2, z3, z4, z5, HPZ⟩ : ∃ x0 x1 x2 x3 x4 x5 : Int, Hid (sealR (joinZ (L.map pubZ)) n0 n1 n2 (P0 + T0) (P1 + T1) (P2 + T2) = ((x0, x1), (x2, x3), (x4, x5))) := ⟨_, _, _, _, _, _, Lib.hid rfl⟩
        have hz12 := hpl T0 T1 T2
        rw [HPZ.out, HPS.out] at hz12
        obtain ⟨Jk, HJk⟩ : ∃ J, Hid (joinZ (L.map pubZ) = J) := ⟨_, Lib.hid rfl⟩
        rw [HJk.out] at hz12
        have HZ1 := Lib.hid hz12.1; have HZ2 := Lib.hid hz12.2
        clear hz12 hpl hT0 hT1 hT2 q0 q1 q2
        go_wp2_with fail
        refine (keys_any q 0 cq L _ HV HLS hL5).mono ?_; rintro e w5 ⟨v5, rfl, hb⟩
        rw [HJk.out]
        have HH5 := Lib.hid (HH.out.below hb)
        have q0 := (hb.cell (p := ⟨ba, oa + k * 3, none⟩) hba).trans HQ0.out
        have q1 := (hb.cell (p := ⟨ba, oa + k * 3 + 1, none⟩) hba).trans HQ1.out
        have q2 := (hb.cell (p := ⟨ba, oa + k * 3 + 2, none⟩) hba).trans HQ2.out
        have hba5 : ba < w5.heap.size := Nat.lt_of_lt_of_le hba hb.size
        clear hb
        obtain ⟨a0, a1, a2, a3, a4, a5, g0, g1, g2, g3, g4, g5⟩ := blk6_facts HH5.out.2.1
        have l1 := HH5.out.2.1.lt
        go_upto_region 15 with fail
        go_cut [15] (fun s15 wx => s15 = .int .i64 0 ∧ Hid (Here w W wx bs (.slice q 0 cq) L n0 n1 n2 z0 z1 z2 z3 z4 z5))
        case first =>
          go_region_with (go_at_call 17; refine (again_c Jk y0 y1 y2 y3 y4 y5 T0 T1 T2 z0 z1 z2 z3 z4 z5 0 _ HZ1.out HZ2.out).mono ?_; rintro e u1 ⟨rfl, hbs⟩; have hbu : bs < u1.heap.size := Nat.lt_of_lt_of_le l1 hbs.size; obtain ⟨b0, b1, b2, b3, b4, b5, d0, d1, d2, d3, d4, d5⟩ := blk6_facts ((show Blk w5.drew bs _ _ from HH5.out.2.1).below hbs l1))
          all_goals
            go_wp2_with fail
            go_meet
            first
              | with_reducible exact ⟨rfl, Lib.hid (here_put hwb HH5.out hbs)⟩
              | fail
        case rest =>
        obtain ⟨rfl, HH6⟩ := hcut
        clear a0 a1 a2 a3 a4 a5 g0 g1 g2 g3 g4 g5 l1 q0 q1 q2 hba5
        go_wp2_with fail
        go_roundw
        case rel => exact ⟨_, k + 1, L, P0 + T0, P1 + T1, P2 + T2, z0, z1, z2, z3, z4, z5, rfl, by go_num, by omega, by have := HM.out; omega, rfl, by have := HM.out; omega, by rw [HM.out]; rfl, HLS, HPZ, HH6⟩
        case measure => simp [intOf, lenOf]; omega
      · have hM1 : (0 : Int) < M := by omega
        clear hgo hend
        go_upto_if 75 with fail
        go_cut [15] (fun s15 wx => s15 = .int .i64 0 ∧ ∃ A0 A1 A2 z0 z1 z2 z3 z4 z5 : Int, Hid (sealR (joinZ (L.map pubZ)) n0 n1 n2 A0 A1 A2 = ((z0, z1), (z2, z3), (z4, z5))) ∧ Hid (Here w W wx bs (.slice q M cq) L n0 n1 n2 z0 z1 z2 z3 z4 z5))
        case first =>
          by_cases hkn : k < na
          · have hkn' : (k : Int) < na := by omega
            have hpl := seal_plus (pubs_elB HLS.out) HW.out P0 P1 P2
            obtain ⟨ba, oa, hpa, hba, q0, q1, q2⟩ := (ha.out.below HH.out.2.2.2.1).at hkn
            subst hpa
            obtain ⟨T0, hT0⟩ : ∃ T, (ts.getD k (0, 0, 0)).1 = T := ⟨_, rfl⟩
            obtain ⟨T1, hT1⟩ : ∃ T, (ts.getD k (0, 0, 0)).2.1 = T := ⟨_, rfl⟩
            obtain ⟨T2, hT2⟩ : ∃ T, (ts.getD k (0, 0, 0)).2.2 = T := ⟨_, rfl⟩
            rw [hT0] at q0; rw [hT1] at q1; rw [hT2] at q2
            have HQ0 := Lib.hid q0; have HQ1 := Lib.hid q1; have HQ2 := Lib.hid q2
            obtain ⟨z0, z1, z2, z3, z4, z5, HPZ⟩ : ∃ x0 x1 x2 x3 x4 x5 : Int, Hid (sealR (joinZ (L.map pubZ)) n0 n1 n2 (P0 + T0) (P1 + T1) (P2 + T2) = ((x0, x1), (x2, x3), (x4, x5))) := ⟨_, _, _, _, _, _, Lib.hid rfl⟩
            have hz12 := hpl T0 T1 T2
            rw [HPZ.out, HPS.out] at hz12
            obtain ⟨Jk, HJk⟩ : ∃ J, Hid (joinZ (L.map pubZ) = J) := ⟨_, Lib.hid rfl⟩
            rw [HJk.out] at hz12
            have HZ1 := Lib.hid hz12.1; have HZ2 := Lib.hid hz12.2
            clear hz12 hpl hT0 hT1 hT2 q0 q1 q2
            go_wp2_with fail
            refine (keys_any q M cq L _ HV HLS hL5).mono ?_; rintro e w5 ⟨v5, rfl, hb⟩
            rw [HJk.out]
            have HH5 := Lib.hid (HH.out.below hb)
            have q0 := (hb.cell (p := ⟨ba, oa + k * 3, none⟩) hba).trans HQ0.out
            have q1 := (hb.cell (p := ⟨ba, oa + k * 3 + 1, none⟩) hba).trans HQ1.out
            have q2 := (hb.cell (p := ⟨ba, oa + k * 3 + 2, none⟩) hba).trans HQ2.out
            have hba5 : ba < w5.heap.size := Nat.lt_of_lt_of_le hba hb.size
            clear hb
            obtain ⟨a0, a1, a2, a3, a4, a5, g0, g1, g2, g3, g4, g5⟩ := blk6_facts HH5.out.2.1
            have l1 := HH5.out.2.1.lt
            go_upto_region 15 with fail
            go_cut [15] (fun s15 wx => s15 = .int .i64 0 ∧ Hid (Here w W wx bs (.slice q M cq) L n0 n1 n2 z0 z1 z2 z3 z4 z5))
            case first =>
              go_region_with (go_at_call 17; refine (again_c Jk y0 y1 y2 y3 y4 y5 T0 T1 T2 z0 z1 z2 z3 z4 z5 0 _ HZ1.out HZ2.out).mono ?_; rintro e u1 ⟨rfl, hbs⟩; have hbu : bs < u1.heap.size := Nat.lt_of_lt_of_le l1 hbs.size; obtain ⟨b0, b1, b2, b3, b4, b5, d0, d1, d2, d3, d4, d5⟩ := blk6_facts ((show Blk w5.drew bs _ _ from HH5.out.2.1).below hbs l1))
              all_goals
                go_wp2_with fail
                go_meet
                first
                  | with_reducible exact ⟨rfl, Lib.hid (here_put hwb HH5.out hbs)⟩
                  | fail
            case rest =>
            obtain ⟨rfl, HH6⟩ := hcut
            clear a0 a1 a2 a3 a4 a5 g0 g1 g2 g3 g4 g5 l1 q0 q1 q2 hba5
            go_wp2_with fail
            go_meet
            exact ⟨rfl, P0 + T0, P1 + T1, P2 + T2, z0, z1, z2, z3, z4, z5, HPZ, HH6⟩
          · have hkn' : ¬ (k : Int) < na := by omega
            go_wp2_with fail
            go_meet
            exact ⟨rfl, P0, P1, P2, y0, y1, y2, y3, y4, y5, HPS, HH⟩
        case rest =>
        obtain ⟨rfl, A0, A1, A2, z0, z1, z2, z3, z4, z5, HPZ, HH6⟩ := hcut
        have HV6 : Hid (IntsV wc q M cq L) := by
          obtain ⟨q', c', he, h⟩ := HH6.out.1.intsV
          cases he
          exact Lib.hid h
        go_upto_if 104 with fail
        go_cut [21] (fun s21 wx => ∃ kk : Nat, kk < M ∧ s21 = .int .i64 kk ∧ wx = wc)
        case first =>
          by_cases hio : k < no
          · obtain ⟨bo, oo, hpo, hbo, qo, qo0, qo1⟩ := (ho.out.below HH6.out.2.2.2.1).at hio
            subst hpo
            obtain ⟨x, hx⟩ : ∃ x, os.getD k 0 = x := ⟨_, rfl⟩
            rw [hx] at qo qo0 qo1
            clear hx
            obtain ⟨kk, hkk, hkk1⟩ : ∃ kk : Nat, x % (M : Int) = kk ∧ kk < M := by
              have h1 := Int.emod_nonneg x (b := (M : Int)) (by omega)
              have h2 := Int.emod_lt_of_pos x (b := (M : Int)) (by omega)
              exact ⟨(x % (M : Int)).toNat, by omega, by omega⟩
            have hio' : (k : Int) < no := by omega
            have hMne : ((M : Int) == 0) = false := by simp; omega
            have HKK := Lib.hid hkk
            clear hkk
            go_wp2_with fail
            go_meet
            exact ⟨kk, hkk1, by rw [HKK.out], rfl⟩
          · have hio' : ¬ (k : Int) < no := by omega
            go_wp2_with fail
            go_meet
            exact ⟨0, by omega, rfl, rfl⟩
        case rest =>
        rename_i wy
        obtain ⟨kk, hkk1, rfl, rfl⟩ := hcut
        have hoff := off_one HLS.out (k := kk) (by rw [HM.out]; exact hkk1) (n0 := n0) (n1 := n1) (n2 := n2) HW.out A0 A1 A2
        rw [HPZ.out] at hoff
        obtain ⟨t0, t1, t2, t3, t4, t5, HPT⟩ : ∃ x0 x1 x2 x3 x4 x5 : Int, Hid (sealR (joinZ ((L.take kk ++ L.drop (kk + 1)).map pubZ)) n0 n1 n2 A0 A1 A2 = ((x0, x1), (x2, x3), (x4, x5))) := ⟨_, _, _, _, _, _, Lib.hid rfl⟩
        rw [HPT.out] at hoff
        obtain ⟨bl, ol, hpl, hbl, ql⟩ := HV6.out.at hkk1
        obtain ⟨s, hs⟩ : ∃ s, L.getD kk 0 = s := ⟨_, rfl⟩
        rw [hs] at hoff ql
        subst hpl
        have HF1 := Lib.hid hoff.1; have HF2 := Lib.hid hoff.2.1; have HF3 := Lib.hid hoff.2.2.1; have HF4 := Lib.hid hoff.2.2.2
        clear hoff hs
        obtain ⟨a0, a1, a2, a3, a4, a5, g0, g1, g2, g3, g4, g5⟩ := blk6_facts HH6.out.2.1
        have l1 := HH6.out.2.1.lt
        go_upto_region 22 with fail
        go_cut [15] (fun s15 wx => s15 = .int .i64 0 ∧ Hid (Here w W wx bs (.slice (some ⟨bl, ol, none⟩) M cq) L n0 n1 n2 t0 t1 t2 t3 t4 t5))
        case first =>
          go_region_with (go_at_call 22; refine (strip_c s z0 z1 z2 z3 z4 z5 t0 t1 t2 t3 t4 t5 0 _ HF1.out HF2.out).mono ?_; rintro e u1 ⟨rfl, hbs⟩; have hbu : bs < u1.heap.size := Nat.lt_of_lt_of_le l1 hbs.size; obtain ⟨b0, b1, b2, b3, b4, b5, d0, d1, d2, d3, d4, d5⟩ := blk6_facts ((show Blk (World.drew _) bs _ _ from HH6.out.2.1).below hbs l1))
          all_goals
            go_wp2_with fail
            go_meet
            first
              | with_reducible exact ⟨rfl, Lib.hid (here_put hwb HH6.out hbs)⟩
              | fail
        case rest =>
        obtain ⟨rfl, HH8⟩ := hcut
        clear a0 a1 a2 a3 a4 a5 g0 g1 g2 g3 g4 g5 l1 ql
        obtain ⟨hMc, hcm⟩ := own_caps HH8.out.1
        have hcm' : cq ≤ 9223372036854775807 := by unfold maxLen at hcm; omega
        have HV8 : Hid (IntsV wc (some ⟨bl, ol, none⟩) M cq L) := by
          obtain ⟨q', c', he, h⟩ := HH8.out.1.intsV
          cases he
          exact Lib.hid h
        have HA : Hid (IntsAt wc bl ol L) := by
          rcases HV8.out.2.2 with h | ⟨b', off', he, hb', hc⟩
          · omega
          · cases he; exact Lib.hid hc
        have hbl8 : bl < wc.heap.size := by
          rcases HV8.out.2.2 with h | ⟨b', off', he, hb', hc⟩
          · omega
          · cases he; exact hb'
        clear hbl
        obtain ⟨wx, hwx⟩ : ∃ X, wc = X := ⟨_, rfl⟩
        rw [hwx] at HH8 HV8 HA hbl8 ⊢
        clear hwx
        obtain ⟨A, hA⟩ : ∃ A, L.take kk = A := ⟨_, rfl⟩
        obtain ⟨B, hB⟩ : ∃ A, L.drop (kk + 1) = A := ⟨_, rfl⟩
        have hAl : A.length = kk := by rw [← hA, List.length_take]; have := HM.out; omega
        have hBl : B.length = M - (kk + 1) := by rw [← hB, List.length_drop]; have := HM.out; omega
        rw [hA, hB] at HF3 HF4 HPT
        have HNA : Hid (∀ X : World, Below wx.heap.size wx X → ∀ j u, (ints A)[j]? = some u → X.cell? ((⟨bl, ol, none⟩ : Addr).add j) = some u) := Lib.hid (by
          intro X hX j u hu
          rw [List.getElem?_map] at hu
          cases hg : A[j]? with
          | none => rw [hg] at hu; cases hu
          | some z =>
            rw [hg] at hu; cases hu
            have hjk : j < kk := by have := (List.getElem?_eq_some_iff.1 hg).1; omega
            rw [add_none, hX.cell (p := ⟨bl, ol + j, none⟩) hbl8, HA.out j (by have := HM.out; omega)]
            rw [← hA, List.getElem?_take, if_pos hjk] at hg
            rw [List.getD_eq_getElem?_getD, hg]; rfl)
        have HNB : Hid (∀ X : World, Below wx.heap.size wx X → ∀ j u, (ints B)[j]? = some u → X.cell? ((⟨bl, ol + (kk + 1), none⟩ : Addr).add j) = some u) := Lib.hid (by
          intro X hX j u hu
          rw [List.getElem?_map] at hu
          cases hg : B[j]? with
          | none => rw [hg] at hu; cases hu
          | some z =>
            rw [hg] at hu; cases hu
            have hjk : j < M - (kk + 1) := by have := (List.getElem?_eq_some_iff.1 hg).1; omega
            rw [add_none, hX.cell (p := ⟨bl, ol + (kk + 1) + j, none⟩) hbl8, Nat.add_assoc ol, HA.out (kk + 1 + j) (by have := HM.out; omega)]
            rw [← hB, List.getElem?_drop] at hg
            rw [List.getD_eq_getElem?_getD, hg]; rfl)
        have HNB0 : Hid (cq = kk + 1 → ∀ X : World, ∀ j u, (ints B)[j]? = some u → X.cell? ((⟨bl, ol, none⟩ : Addr).add j) = some u) := Lib.hid (by
          intro h X j u hu
          have : B = [] := List.eq_nil_of_length_eq_zero (by omega)
          rw [this] at hu; simp at hu)
        have HO0 : Hid (∀ X : World, X.heap = (wx.alloc (.cells #[] 3)).heap → X.ownsRow wx.heap.size 3 1 (.slice (some ⟨wx.heap.size, 0, none⟩) 0 0) 0 []) := Lib.hid (by
          intro X hX
          have h := World.ownsRow_made wx (base := wx.heap.size) (e := 3) (size := 1) #[] 0 (Nat.le_refl _) (by unfold maxLen; omega) rfl
          unfold World.ownsRow at h ⊢
          rw [hX]; exact h)
        have HUA : Hid (∀ u ∈ ints A, u.oneCell' = true) := Lib.hid (by intro u hu; obtain ⟨z, _, rfl⟩ := List.mem_map.1 hu; rfl)
        have HUB : Hid (∀ u ∈ ints B, u.oneCell' = true) := Lib.hid (by intro u hu; obtain ⟨z, _, rfl⟩ := List.mem_map.1 hu; rfl)
        have HLA : Hid ((ints A).length = kk * 1) := Lib.hid (by rw [List.length_map]; omega)
        have HLB : Hid ((ints B).length = (M - (kk + 1)) * 1) := Lib.hid (by rw [List.length_map]; omega)
        have HAL := Lib.hid hAl; have HBL := Lib.hid hBl
        clear hA hB hAl hBl
        have e1 : IntKind.i64.wrap ((kk : Int) + 1) = ((kk + 1 : Nat) : Int) := (IntWalk.i64_in _ (by omega)).trans (by omega)
        have hlen : M - (kk + 1) ≤ 5 := by omega
        have hk5 : (kk : Int) ≤ 4 := by omega
        have hk5' : kk ≤ 4 := by omega
        have hkk1' : (kk : Int) ≤ (kk : Int) + 1 := by omega
        have hkc : kk ≤ cq := by omega
        have hki : (0 : Int) ≤ (kk : Int) + 1 := by omega
        have hki2 : (kk : Int) + 1 ≤ (M : Int) := by omega
        have hk1n : kk + 1 ≤ M := by omega
        have hk1c : kk + 1 ≤ cq := by omega
        rcases Nat.eq_or_lt_of_le hk1c with hck | hck
        case' inl =>
          subst hck
          go_wp2_with fail
          go_region_law (first
            | (refine step_append_own rfl (.tmp 124) (.tmp 127) 22 rfl wx.heap.size 3 i0 (.int .i64 0) 1 8 Try.underlying22 hi hz0 hz1 hz2 rfl (by decide) (.slice (some ⟨wx.heap.size, 0, none⟩) 0 0) 0 [] (by simp [Act.eval, Act.put]) (HO0.out _ rfl) ⟨bl, ol, none⟩ kk (kk + 1) (ints A) (by simp [Act.eval, Act.put]) HLA.out (HNA.out _ (bel_alloc1 wx _).drew) HUA.out (by unfold maxLen; omega) (by omega) (by simp) ?_; intro v1 w3 ho1 hg1; have HB3 := Lib.hid (bel_first hg1); clear hg1)
            | (refine step_append_own rfl (.tmp 128) (.tmp 132) 22 rfl wx.heap.size 3 i0 (.int .i64 0) 1 8 Try.underlying22 hi hz0 hz1 hz2 rfl (by decide) v1 (0 + kk) ([] ++ ints A) (by simp [Act.eval, Act.put]) ho1 ⟨bl, ol, none⟩ (M - (kk + 1)) (0) (ints B) (by simp [Act.eval, Act.put]; try omega) HLB.out (HNB0.out (by trivial) _) HUB.out (by unfold maxLen; omega) (by omega) HB3.out.size ?_; intro v2 w4' ho2 hg2; have HB4 := Lib.hid (bel_second HB3.out ho1 hg2); clear hg2))
        case' inr =>
          have hne : ¬ cq = kk + 1 := by omega
          go_wp2_with fail
          go_region_law (first
            | (refine step_append_own rfl (.tmp 124) (.tmp 127) 22 rfl wx.heap.size 3 i0 (.int .i64 0) 1 8 Try.underlying22 hi hz0 hz1 hz2 rfl (by decide) (.slice (some ⟨wx.heap.size, 0, none⟩) 0 0) 0 [] (by simp [Act.eval, Act.put]) (HO0.out _ rfl) ⟨bl, ol, none⟩ kk (cq) (ints A) (by simp [Act.eval, Act.put]) HLA.out (HNA.out _ (bel_alloc1 wx _).drew) HUA.out (by unfold maxLen; omega) (by omega) (by simp) ?_; intro v1 w3 ho1 hg1; have HB3 := Lib.hid (bel_first hg1); clear hg1)
            | (refine step_append_own rfl (.tmp 128) (.tmp 132) 22 rfl wx.heap.size 3 i0 (.int .i64 0) 1 8 Try.underlying22 hi hz0 hz1 hz2 rfl (by decide) v1 (0 + kk) ([] ++ ints A) (by simp [Act.eval, Act.put]) ho1 ⟨bl, ol + (kk + 1), none⟩ (M - (kk + 1)) (cq - (kk + 1)) (ints B) (by simp [Act.eval, Act.put]; try omega) HLB.out (HNB.out _ HB3.out) HUB.out (by unfold maxLen; omega) (by omega) HB3.out.size ?_; intro v2 w4' ho2 hg2; have HB4 := Lib.hid (bel_second HB3.out ho1 hg2); clear hg2))
          clear hne
        all_goals
          have HO2 : Hid (Own w4' wx.heap.size v2 (A ++ B)) := Lib.hid (by
            have hl : (A ++ B).length = 0 + kk + (M - (kk + 1)) := by rw [List.length_append, HAL.out, HBL.out]; omega
            unfold Own; rw [hl, ints, List.map_append]; exact ho2)
          have HH9 := Lib.hid (HH8.out.row HB4.out HO2.out)
          obtain ⟨q', c', rfl, _⟩ := HO2.out.intsV
          obtain ⟨Z, hZ⟩ : ∃ Z, (A ++ B).length = Z := ⟨_, rfl⟩
          rw [hZ] at HH9 HF4 ⊢
          have HZ := Lib.hid hZ
          clear hZ
          clear ho1 ho2 HO2 HB3 e1 hki hki2 hkk1' hkc hk1n hk1c
          simp only [Act.put]
          go_wp2_with fail
          go_roundw
          case rel => exact ⟨_, k + 1, A ++ B, A0, A1, A2, t0, t1, t2, t3, t4, t5, rfl, by go_num, by omega, by have := HF4.out; have := HM.out; have := HZ.out; omega, rfl, by have := HF4.out; have := HM.out; have := HZ.out; omega, by rw [HZ.out]; rfl, HF3, HPT, HH9⟩
          case measure => have := HF4.out; have := HM.out; simp only [intOf, lenOf]; omega

section
variable {H : Type} {enc : TypeId × Value → H} {P : Program} {w : World} {base : Nat} {spare : Nat → Bool} {held : Bool}
theorem open_intsD {r : Reach} {b0 : Nat} {t e : TypeId} {v : Value} {d : DataW H} {ps : List MemPlace} (ht : P.underlying t = some (.slice e)) (he : P.underlying e = some (.int .i64)) (hc : P.cellsOf e = 1)
    (hval : Value.okWide P w r b0 t v) (hd : DataW.Trod enc P w base spare held t v d ps) :
    ∃ p n cap zs, v = .slice p n cap ∧ IntsV w p n cap zs ∧ n ≤ cap ∧ cap ≤ maxLen ∧ (p = none → cap = 0) := by
  obtain ⟨p, n, cap, zs, rfl, h1, h2⟩ := open_intsV ht he hc hval hd
  obtain ⟨fuel, hf⟩ := hd
  rcases open_ints ht he hc hf with ⟨hcs, _⟩ | ⟨x, l, c, ys, hcs, _, hl, hm, _⟩
  · simp [Value.cells] at hcs
    obtain ⟨rfl, rfl, rfl⟩ := hcs
    exact ⟨none, 0, 0, zs, rfl, h1, by omega, by unfold maxLen; omega, fun _ => rfl⟩
  · simp [Value.cells] at hcs
    obtain ⟨rfl, rfl, rfl⟩ := hcs
    exact ⟨_, _, _, zs, rfl, h1, hl, hm, fun h => by cases h⟩
end

namespace elgamalOpens
theorem readable : ∀ t ∈ Try.f5.params.toList, Try.prog.readableRec t = true ∧ t < Try.prog.types.size := by
  rw [Try.params5]
  intro t ht
  simp only [List.mem_cons, List.not_mem_nil, or_false] at ht
  rcases ht with rfl | rfl | rfl | rfl | rfl
  all_goals exact ⟨by kernel_rfl, by decide +kernel⟩

set_option maxRecDepth 100000 in
theorem lifted (os : Os) (started : os.Started) (H : Type) (enc : TypeId × Value → H) :
    ReturnsInHanded {} Try.checked os 5 .any (Rows.elgamalOpensSpec.pre6 enc Try.prog Try.f5 Rows.elgamalOpensRow.domain false) (Rows.elgamalOpensSpec.post enc Try.prog Try.f5 false true false false) := by
  refine returnsInHanded_of_change (C := Try.checked) own_knob started (by kernel_rfl) Try.func5
    (ChangeSpec.witness6 (enc := enc) (C := Try.checked) false ⟨#[], #[.slice none 0 0, .agg #[.int .i64 0, .int .i64 0, .int .i64 0], .agg #[.int .i64 0, .int .i64 0, .int .i64 0], .slice none 0 0, .slice none 0 0], []⟩ 8 (by kernel_rfl) (by kernel_rfl) (by kernel_rfl) (by kernel_rfl)) ?_
  intro W base args ds gs before hval0 hW hcnd _
  have hval : ∀ (j : Nat) t v, Try.f5.params[j]? = some t → args[j]? = some v → Value.okWide Try.prog W .any base t v := hval0
  have hW' := hW
  obtain ⟨p, q, hA0, hV, rfl, hfz, hnd⟩ := hW
  have hA : DataW.TrodAll enc Try.prog W 0 (fun _ => true) true Try.f5.params.toList args.toList ds p := hA0
  rw [Try.params5] at hA hval
  obtain ⟨v0, vs0, d0, ds0, p0, q0, hargs, rfl, rfl, h0, r0⟩ := trodAll_cons hA
  obtain ⟨v1, vs1, d1, ds1, p1, q1, rfl, rfl, rfl, h1, r1⟩ := trodAll_cons r0
  obtain ⟨v2, vs2, d2, ds2, p2, q2, rfl, rfl, rfl, h2, r2⟩ := trodAll_cons r1
  obtain ⟨v3, vs3, d3, ds3, p3, q3, rfl, rfl, rfl, h3, r3⟩ := trodAll_cons r2
  obtain ⟨v4, vs4, d4, ds4, p4, q4, rfl, rfl, rfl, h4, r4⟩ := trodAll_cons r3
  obtain ⟨rfl, rfl, rfl⟩ := trodAll_nil r4
  obtain rfl : args = #[v0, v1, v2, v3, v4] := by cases args; simp_all
  obtain ⟨rfl, rfl⟩ := trodVars_none hV
  obtain ⟨s0, n0, c0, z0, rfl, w0, wc0, wm0, wn0⟩ := open_intsD Try.underlying22 Try.underlying3 (by kernel_rfl) (hval 0 22 v0 rfl rfl) h0
  obtain ⟨a1, b1, c1, rfl, wa1, wb1, wc1⟩ := open_arr3 Try.underlying30 Try.underlying3 (by kernel_rfl) (by kernel_rfl) (hval 1 30 v1 rfl rfl) h1
  obtain ⟨a2, b2, c2, rfl, wa2, wb2, wc2⟩ := open_arr3 Try.underlying29 Try.underlying3 (by kernel_rfl) (by kernel_rfl) (hval 2 29 v2 rfl rfl) h2
  obtain ⟨s3, n3, c3, z3, rfl, w3⟩ := open_threes Try.underlying39 Try.underlying29 Try.underlying3 (by kernel_rfl) (by kernel_rfl) (hval 3 39 v3 rfl rfl) h3
  obtain ⟨s4, n4, c4, z4, rfl, w4⟩ := open_bytesV Try.underlying40 Try.underlying5 (by kernel_rfl) (hval 4 40 v4 rfl rfl) h4
  clear hA0 hval0
  refine (elgamalOpens_walk s0 n0 c0 z0 a1 b1 c1 a2 b2 c2 s3 n3 c3 z3 s4 n4 c4 z4 W (Lib.hid w0) wc0 wm0 wn0 (Lib.hid w3) (Lib.hid w4)).mono fun e W' ⟨he, hb⟩ => ?_
  subst he
  exact ⟨_, rfl, law_post laid_out readable rfl rfl Try.underlying4 hW' rfl rfl rfl hb⟩

theorem over : Rows.elgamalOpensRow.holds Try.pinned (OpenSpec.ofChange Rows.elgamalOpensSpec) :=
  OpenClaim.holds_of_wide 5 Try.f5 rfl rfl rfl rfl rfl rfl rfl ⟨rfl, rfl, rfl, rfl, rfl⟩ rfl rfl rfl rfl rfl (by kernel_rfl) Try.func5 (by kernel_rfl)
    (of_decide_eq_true (by kernel_rfl)) (by unfold Func.isWrapper; first | (rw [if_pos (by decide +kernel)]; kernel_rfl) | (rw [if_neg (by decide +kernel)]; exact ⟨rfl, rfl⟩))
    (fun os started H enc _ => lifted os started H enc)

/-- the statement -/
theorem proved : Rows.ElgamalOpensSaid := over
end elgamalOpens
end Go.Proofs.Ytbmeljkdemdloaa
