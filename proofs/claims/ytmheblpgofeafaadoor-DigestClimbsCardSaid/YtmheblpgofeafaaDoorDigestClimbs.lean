/- For every list and every element, climbing its path leads to the digest of the list, and a longer path is refused. No condition. -/
import Derived.Test.YtmheblpgofeafaaDoorDigAppX
import Derived.Test.YtmheblpgofeafaaDoorDigRoot
import Derived.Test.YtmheblpgofeafaaDoorRegU3
import Derived.Test.YtmheblpgofeafaaDoorDigCard2
namespace Go.Proofs.YtmheblpgofeafaaDoor
open Go.ChangeShapes Go.WideShapes Go.ChangeAt Go.RowKit Go.WideElems
set_option linter.unusedVariables false
set_option linter.unusedSimpArgs false

theorem take_dg_ (bs : List Int) : ∀ (n i : Nat), i < n → ((dgs bs n).drop (32 * i)).take 32 = dgOf bs i
  | 0, i, h => by omega
  | n + 1, i, h => by
    have hl := dgs_len bs n
    rcases (by omega : i = n ∨ i < n) with rfl | h1
    · rw [dgs, ← hl, List.drop_left, List.take_of_length_le (by rw [dgOf_len]; omega)]
    · rw [dgs, List.drop_append_of_le_length (by omega), List.take_append_of_le_length (by rw [List.length_drop]; omega)]
      exact take_dg_ bs n i h1
theorem ownR_some {w : World} {B n cap : Nat} {q : Option Addr} {fs : List Int} (h : OwnR w B (.slice q n cap) n fs) : ∀ q', q = some q' → ∃ b off, q' = ⟨b, off, none⟩ := by
  intro q' e
  subst e
  obtain ⟨_, ⟨e, _⟩ | ⟨g, cap', cur, e, _⟩⟩ := h
  · cases e
  · cases e; exact ⟨g, 0, rfl⟩
/-- where the path lies, in all worlds behind it -/
theorem srcD_some {w : World} {p : Option Addr} {n cap : Nat} {fs : List Int} (h : SrcD w p n cap fs) (hne : ∀ q, p = some q → ∃ b off, q = ⟨b, off, none⟩) (q : Addr) (hq : p = some q) : ∃ b off, q = ⟨b, off, none⟩ ∧ BytesAt w b off fs := by
  obtain ⟨b, off, e⟩ := hne q hq
  refine ⟨b, off, e, ?_⟩
  obtain ⟨h1, h2, h3, h4 | ⟨b', off', e', _, hc⟩⟩ := h
  · have : fs = [] := List.eq_nil_of_length_eq_zero (by omega)
    subst this
    intro j hj
    simp at hj
  · rw [hq, e] at e'
    cases e'
    exact hc
set_option maxRecDepth 100000 in
set_option maxHeartbeats 16000000 in
theorem digestClimbs_walk (p : Option Addr) (m cap : Nat) (bs : List Int) (w : World) (hz : Hid (SrcW w p m cap bs)) (hr : Hid (∀ z ∈ bs, 0 ≤ z ∧ z ≤ 255)) (hm : m ≤ 9223372036854775807) (hk : Hid (KeysAt w)) :
    Calls Tryd.prog 6 #[.slice p m cap] w fun e w' => e = .returned (.bool true) ∧ Below w.heap.size w w' := by
  go_enter Tryd.func6, Tryd.ntmps6
  go_wp2_with fail
  refine (dsane_any w hk).mono ?_; rintro e w1 ⟨rfl, hb⟩
  have B1 := Lib.hid hb; clear hb
  go_wp2_with fail
  refine (digestsOf_any p m cap bs w1 (Lib.hid (hz.out.below B1.out)) hr hm).mono ?_
  rintro e w2 ⟨lb, lcap, rfl, hl1, hl2, hl3, hl4, hl5, hb5⟩
  have B2 := Lib.hid (B1.out.trans (hb5.mono B1.out.size))
  have hLr := Lib.hid (dgs_rng bs (min m 24) (by omega))
  have hLl := Lib.hid (dgs_len bs (min m 24))
  have hLB := Lib.hid hl5
  have hLe : Hid (∀ i, i < min m 24 → ((dgs bs (min m 24)).drop (32 * i)).take 32 = dgOf bs i) := Lib.hid (take_dg_ bs (min m 24))
  have hn24 : min m 24 ≤ 24 := by omega
  obtain ⟨n, hn⟩ : ∃ n, min m 24 = n := ⟨_, rfl⟩
  rw [hn] at hLr hLl hLB hLe hn24 hl3 ⊢
  obtain ⟨L, hL⟩ : ∃ L, dgs bs n = L := ⟨_, rfl⟩
  rw [hL] at hLr hLl hLB hLe
  have hml : maxLen ≤ 9223372036854775807 := by decide
  clear hl5 hb5 B1 hn hl1 hL
  have SD : Hid (SrcD w2 (some ⟨lb, 0, none⟩) n lcap L) := Lib.hid ⟨hLl.out, hl3, hl4, .inr ⟨lb, 0, rfl, hl2, hLB.out⟩⟩
  obtain ⟨ds, hds⟩ := isTree_ex n L hLl.out
  have HT := Lib.hid hds
  have HTL := Lib.hid hds.len
  have EQ := eqDig_same ds hds.len
  clear hds
  go_wp2_with fail
  refine (tree_any n L ds HT.out (some ⟨lb, 0, none⟩) lcap w2 SD hLr (by omega) (Lib.hid (hk.out.below B2.out))).mono ?_
  rintro e w3 ⟨rfl, hb3⟩
  have B3 := Lib.hid (B2.out.trans (hb3.mono B2.out.size))
  have L3 := Lib.hid (hLB.out.below hb3 hl2)
  have hl3' : lb < w3.heap.size := Nat.lt_of_lt_of_le hl2 hb3.size
  clear hb3 SD hLB B2 hl2
  go_wp2_with (refine list_storeD rfl (.tmp 4) (.tmp 18) rfl w3.heap.size rfl ds rfl HTL.out _ (Dg.new w3) ?_)
  intro w4 d4 k4
  have K4 : Below w3.heap.size w3 w4 := (bel_alloc1 w3 _).trans (k4.below (Nat.le_refl _))
  have T4 := Lib.hid d4
  have B4 := Lib.hid (B3.out.trans (K4.mono B3.out.size))
  have L4 := Lib.hid (L3.out.below K4 hl3')
  have hl4' : lb < w4.heap.size := Nat.lt_of_lt_of_le hl3' K4.size
  clear K4 d4 k4 B3 L3 hl3'
  obtain ⟨tb, htb⟩ : ∃ b, w3.heap.size = b := ⟨_, rfl⟩
  rw [htb] at T4 ⊢
  clear htb
  go_wp2_with fail
  go_loopw [21] (fun i wr => ∃ (A : Nat), A ≤ n ∧ i = .int .i64 A ∧ Hid (Dg wr tb ds) ∧ Hid (BytesAt wr lb 0 L) ∧ lb < wr.heap.size ∧ Hid (Below w.heap.size w wr)) (fun i _ => n - (intOf i).toNat)
  case atStart => exact ⟨0, by omega, rfl, T4, L4, hl4', B4⟩
  case round =>
    obtain ⟨A, hAn', rfl, RT, RL, hlt, RB⟩ := hrel
    clear T4 L4 B4 hl4'
    by_cases hAn : A < n
    case neg =>
      go_wp2_with fail
      go_ret
      exact ⟨rfl, RB.out⟩
    obtain ⟨dd, hdd⟩ : ∃ dd, (L.drop (32 * A)).take 32 = dd := ⟨_, rfl⟩
    have hdd2 : dd = dgOf bs A := by rw [← hdd]; exact hLe.out A hAn
    have HDL : Hid (dd.length = 32) := Lib.hid (by rw [hdd2]; rfl)
    have HDR : Hid (∀ z ∈ dd, 0 ≤ z ∧ z ≤ 255) := Lib.hid (by rw [hdd2]; exact dgOf_rng bs A (by omega))
    have hDk : Hid (BytesAt wr lb (A * 32) dd) := Lib.hid (by have := (RL.out.drop (32 * A)).take 32; rw [hdd, Nat.zero_add, Nat.mul_comm] at this; exact this)
    obtain ⟨c, ps, hp⟩ := isPath_ex n A L hAn hLl.out
    have HCL : Hid (IsClimb A n c ps dd ds) := Lib.hid (by rw [← hdd]; exact climb_of_path hp ds HT.out hLl.out)
    have HS := Lib.hid hp.steps
    have HP := Lib.hid hp.rng
    have HPL := Lib.hid hp.len
    have HPP := Lib.hid hp
    have hc5 : c ≤ 5 := hp.steps.short 5 (by omega)
    clear hdd hdd2 hp
    go_wp2_with (first
      | (refine list_loadM (by rfl) (.tmp 24) rfl lb (A * 32) rfl dd hDk.out HDL.out ?_)
      | (refine list_storeD rfl (.tmp 6) (.tmp 25) rfl wr.heap.size rfl dd rfl HDL.out _ (Dg.new wr) ?_))
    intro w5 d5 k5
    have K5 : Below wr.heap.size wr w5 := (bel_alloc1 wr _).trans (k5.below (Nat.le_refl _))
    have D5 := Lib.hid d5
    have T5 := Lib.hid (RT.out.bel K5)
    have B5 := Lib.hid (RB.out.trans (K5.mono RB.out.size))
    have L5 := Lib.hid (RL.out.below K5 hlt)
    have l5 : lb < w5.heap.size := Nat.lt_of_lt_of_le hlt K5.size
    clear K5 d5 k5 RT RB RL hDk hlt
    obtain ⟨d6, hd6⟩ : ∃ b, wr.heap.size = b := ⟨_, rfl⟩
    rw [hd6] at D5 ⊢
    clear hd6
    have SD5 : Hid (SrcD w5 (some ⟨lb, 0, none⟩) n lcap L) := Lib.hid ⟨hLl.out, hl3, hl4, .inr ⟨lb, 0, rfl, l5, L5.out⟩⟩
    go_wp2_with fail
    refine (pathTop_any A n c L ps HPP.out hAn (some ⟨lb, 0, none⟩) lcap w5 SD5 hLr (by omega) (Lib.hid (hk.out.below B5.out))).mono ?_
    rintro e w6 ⟨v, rfl, ho, hb6⟩
    obtain ⟨q, qc, rfl, hsrc, _⟩ := ownR_src ho
    have S6 := Lib.hid hsrc
    have HSP : Hid (∀ q', q = some q' → ∃ b off, q' = ⟨b, off, none⟩) := Lib.hid (ownR_some ho)
    have D6 := Lib.hid (D5.out.bel hb6)
    have T6 := Lib.hid (T5.out.bel hb6)
    have B6 := Lib.hid (B5.out.trans (hb6.mono B5.out.size))
    have L6 := Lib.hid (L5.out.below hb6 l5)
    have l6 : lb < w6.heap.size := Nat.lt_of_lt_of_le l5 hb6.size
    clear hsrc ho hb6 SD5 D5 T5 B5 L5 l5
    go_wp2_with (refine list_loadD (by rfl) (.tmp 6) rfl d6 rfl dd D6.out ?_)
    refine (climbTop_any A n q c qc ps dd ds 0 w6 (.inl ⟨A, n, rfl, rfl, hAn, by omega, HS.out, HCL.out, rfl⟩) S6 HP HDL HDR (Lib.hid (hk.out.below B6.out))).mono ?_
    rintro e w7 ⟨rfl, hb7⟩
    have S7 := Lib.hid (S6.out.below hb7)
    have D7 := Lib.hid (D6.out.bel hb7)
    have T7 := Lib.hid (T6.out.bel hb7)
    have B7 := Lib.hid (B6.out.trans (hb7.mono B6.out.size))
    have L7 := Lib.hid (L6.out.below hb7 l6)
    have l7 : lb < w7.heap.size := Nat.lt_of_lt_of_le l6 hb7.size
    clear hb7 S6 D6 T6 B6 L6 l6
    go_wp2_with (refine list_storeD rfl (.tmp 9) (.tmp 39) rfl w7.heap.size rfl ds rfl HTL.out _ (Dg.new w7) ?_)
    intro w8 d8 k8
    have K8 : Below w7.heap.size w7 w8 := (bel_alloc1 w7 _).trans (k8.below (Nat.le_refl _))
    have R8 := Lib.hid d8
    have S8 := Lib.hid (S7.out.below K8)
    have D8 := Lib.hid (D7.out.bel K8)
    have T8 := Lib.hid (T7.out.bel K8)
    have B8 := Lib.hid (B7.out.trans (K8.mono B7.out.size))
    have L8 := Lib.hid (L7.out.below K8 l7)
    have l8 : lb < w8.heap.size := Nat.lt_of_lt_of_le l7 K8.size
    clear K8 d8 k8 S7 D7 T7 B7 L7 l7
    obtain ⟨d9, hd9⟩ : ∃ b, w7.heap.size = b := ⟨_, rfl⟩
    rw [hd9] at R8 ⊢
    clear hd9
    obtain ⟨zs, hzs⟩ : ∃ zs, List.replicate 32 (0 : Int) = zs := ⟨_, rfl⟩
    have HZS := Lib.hid hzs
    have HZL : Hid (zs.length = 32) := Lib.hid (by rw [← hzs]; rfl)
    clear hzs
    go_upto_region 10 with fail
    go_cut [12] (fun s12 wx => s12 = .int .i64 1 ∧ Hid (Ext w8 wx))
    case first =>
      refine wp_region_any (by kernel_rfl) ?_
      change wpAny _ _ _ _ _ _ _ (World.drew _)
      generalize hWD : w8.drew = W0
      have E8 := Lib.hid (show Ext w8 W0 by rw [← hWD]; exact (Below.refl _ _).drew)
      have D0 := Lib.hid (show Dg W0 d6 dd by rw [← hWD]; exact D8.out)
      have S0 := Lib.hid (show SrcD W0 q c qc ps by rw [← hWD]; exact S8.out)
      have B0 := Lib.hid (show Below w.heap.size w W0 by rw [← hWD]; exact B8.out.drew)
      clear hWD
      refine region_E [16] ?_
      refine anyU_takeD (i := 0) (v := .agg (bv dd).toArray) 42 rfl rfl (by kernel_rfl) (by kernel_rfl) (by kernel_rfl) (fun _ _ _ h => h) (by kernel_rfl) (Ext.stable _) (fun _ h => h) (yieldsU_of_C (yields_loadD rfl _ rfl d6 rfl dd HDL.out (fun u hu => D0.out.bel hu))) ?_
      refine anyU_takeD (i := 1) (v := .int .i64 A) 43 rfl rfl (by kernel_rfl) (by kernel_rfl) (by kernel_rfl) (fun _ _ _ h => h) (by kernel_rfl) (Ext.stable _) (fun _ h => h) (yieldsU_val rfl (fun u hu => by rfl)) ?_
      refine anyU_takeD (i := 2) (v := .slice (some ⟨lb, 0, none⟩) n lcap) 44 rfl rfl (by kernel_rfl) (by kernel_rfl) (by kernel_rfl) (fun _ _ _ h => h) (by kernel_rfl) (Ext.stable _) (fun _ h => h) (yieldsU_val rfl (fun u hu => by rfl)) ?_
      refine anyU_takeD (i := 3) (v := .int .i64 n) 45 rfl rfl (by kernel_rfl) (by kernel_rfl) (by kernel_rfl) (fun _ _ _ h => h) (by kernel_rfl) (Ext.stable _) (fun _ h => h) (yieldsU_val rfl (fun u hu => by go_simp)) ?_
      refine anyU_takeD (i := 5) (v := .slice q c qc) 47 rfl rfl (by kernel_rfl) (by kernel_rfl) (by kernel_rfl) (fun _ _ _ h => h) (by kernel_rfl) (Ext.stable _) (fun _ h => h) (yieldsU_val rfl (fun u hu => by rfl)) ?_
      refine anyU_takeD (i := 7) (v := .agg (bv dd).toArray) 49 rfl rfl (by kernel_rfl) (by kernel_rfl) (by kernel_rfl) (fun _ _ _ h => h) (by kernel_rfl) (Ext.stable _) (fun _ h => h) (yieldsU_of_C (yields_loadD rfl _ rfl d6 rfl dd HDL.out (fun u hu => D0.out.bel hu))) ?_
      have EW : Hid (Ext W0 W0) := Lib.hid (Ext.refl W0)
      refine anyU_three 4 8 14 10 _ _ _ rfl rfl rfl rfl rfl rfl (by kernel_rfl) ?r4x ?r8x ?r14x
      case r4x =>
        intro w9 h
        go_wp2_with fail
        change ∃ C' : World → Prop, _ ∧ _ ∧ _ ∧ anyU _ _ _ _ _ _ 10 _ _ _
        generalize hA : World.alloc _ _ = W
        have z0 : W0.heap.size ≤ w9.heap.size := (Ext.trans EW.out h).size
        have O := Lib.hid (show OwnR W W0.heap.size (.slice (some ⟨w9.heap.size, 0, none⟩) 0 0) 0 [] by rw [← hA]; exact ownR_emp w9 _ z0)
        replace EW := Lib.hid (show Ext W0 W by rw [← hA]; exact Ext.alloc (Ext.trans EW.out h) _)
        clear hA h z0
        obtain ⟨e4, he4⟩ : ∃ b, w9.heap.size = b := ⟨_, rfl⟩
        rw [he4] at O ⊢
        clear he4
        refine anchor EW.out ?_
        refine anyU_three 6 8 14 9 _ _ _ rfl rfl rfl rfl rfl rfl (by kernel_rfl) ?r6_4x ?r8_4x ?r14_4x
        case r6_4x =>
          intro w9 h
          have z0 : W0.heap.size ≤ w9.heap.size := (Ext.trans EW.out h).size
          refine list_appXS rfl rfl (.tmp 46) (.tmp 47) rfl W0.heap.size (.slice (some ⟨e4, 0, none⟩) 0 0) 0 [] rfl (ownR_below O.out h) q c qc ps rfl (S0.out.below (Ext.trans EW.out h)) (by omega) ?hq z0 ?_
          case hq => exact srcD_some (S0.out.below (Ext.trans EW.out h)) HSP.out
          intro v1 W o1 g1 l1
          change ∃ C' : World → Prop, _ ∧ _ ∧ _ ∧ anyU _ _ _ _ _ _ 9 _ _ _
          replace EW := Lib.hid (show Ext W0 W from grown_below (Ext.trans EW.out h) g1 z0 (fun g hg => (ownR_lt O.out g hg).1))
          replace O := Lib.hid o1
          clear o1 g1 l1 h z0
          (try simp only [Act.put])
          refine anchor EW.out ?_
          refine anyU_two 8 14 8 _ _ rfl rfl rfl rfl (by kernel_rfl) ?r8_4_6x ?r14_4_6x
          case r8_4_6x =>
            intro w9 h
            refine list_build1 (by rfl) (.tmp 49) rfl (bv dd) rfl (by rw [bv_len]; exact HDL.out) ?_
            change ∃ C' : World → Prop, _ ∧ _ ∧ _ ∧ anyU _ _ _ _ _ _ 8 _ _ _
            generalize hA : World.alloc _ _ = W
            have F8 := Lib.hid (show Dg W w9.heap.size dd by rw [← hA]; exact Dg.box w9 HDL.out)
            have z0 : W0.heap.size ≤ w9.heap.size := (Ext.trans EW.out h).size
            have NE8 : Hid (Value.ownBlock v1 ≠ some w9.heap.size) := Lib.hid (fun e => by have h1 := (ownR_lt O.out _ e).2; have h2 := h.size; omega)
            replace EW := Lib.hid (show Ext W0 W by rw [← hA]; exact Ext.alloc (Ext.trans EW.out h) _)
            replace O := Lib.hid (show OwnR W W0.heap.size v1 (0 + c) ([] ++ ps) by rw [← hA]; exact ownR_below (ownR_below O.out h) (bel_alloc1 _ _))
            clear hA h
            obtain ⟨b8, hb_⟩ : ∃ b, w9.heap.size = b := ⟨_, rfl⟩
            rw [hb_] at F8 z0 NE8 ⊢
            clear hb_
            have lo8 : W0.heap.size ≤ b8 := z0
            clear z0
            refine anchor EW.out ?_
            refine anyU_two 9 14 7 _ _ rfl rfl rfl rfl (by kernel_rfl) ?r9_4_6_8x ?r14_4_6_8x
            case r9_4_6_8x =>
              intro w9 h
              have z0 : W0.heap.size ≤ w9.heap.size := (Ext.trans EW.out h).size
              refine list_appX rfl (.tmp 48) (.tmp 50) rfl W0.heap.size v1 (0 + c) ([] ++ ps) rfl (ownR_below O.out h) b8 0 1 1 dd rfl (by rw [HDL.out]) (F8.out.bel h).bytes (by omega) z0 ?_
              intro v1 W o1 g1 l1
              change ∃ C' : World → Prop, _ ∧ _ ∧ _ ∧ anyU _ _ _ _ _ _ 7 _ _ _
              have z8 : b8 < w9.heap.size := Nat.lt_of_lt_of_le F8.out.lt h.size
              have N8 : Hid (v1.ownBlock ≠ some b8) := Lib.hid (fun e => by rcases l1 _ e with h1 | h1; exact NE8.out h1; omega)
              replace F8 := Lib.hid (show Dg W b8 _ from (F8.out.bel h).grown g1 NE8.out)
              replace EW := Lib.hid (show Ext W0 W from grown_below (Ext.trans EW.out h) g1 z0 (fun g hg => (ownR_lt O.out g hg).1))
              obtain ⟨q2, qc2, rfl, hs2, _⟩ := ownR_src o1
              have e1 : 0 + c + 1 = c + 1 := by omega
              rw [e1] at hs2 ⊢
              have S2 := Lib.hid (show SrcD W q2 (c + 1) qc2 (ps ++ dd) from hs2)
              clear e1
              clear hs2 o1 g1 l1 h z0 O NE8 N8 z8
              (try simp only [Act.put])
              refine anchor EW.out ?_
              refine anyU_two 10 14 6 _ _ rfl rfl rfl rfl (by kernel_rfl) ?r10_4_6_8_9x ?r14_4_6_8_9x
              case r10_4_6_8_9x =>
                intro w9 h
                (try simp only [Act.put])
                go_wp2_with fail
                refine (climbTop_any A n q2 (c + 1) qc2 (ps ++ dd) dd zs 1 w9 (.inr ⟨.inr (.inr (.inr (.inr ⟨A, n, c, rfl, rfl, hAn, by omega, HS.out, by omega⟩))), HZS.out.symm, rfl⟩) (Lib.hid (S2.out.below h)) (Lib.hid (rng_append HP.out HDR.out)) HDL HDR (Lib.hid (hk.out.below (B0.out.trans ((Ext.trans EW.out h).mono B0.out.size))))).mono ?_
                rintro e W ⟨rfl, hb9⟩
                replace EW := Lib.hid (show Ext W0 W from Ext.trans (Ext.trans EW.out h) hb9)
                clear h hb9 S2
                go_wp2_with fail
                change ∃ C' : World → Prop, _ ∧ _ ∧ _ ∧ anyU _ _ _ _ _ _ 6 _ _ _
                refine anchor EW.out ?_
                refine anyU_takeD (i := 11) (v := .tuple #[.agg (bv zs).toArray, .int .i64 1]) 41 rfl rfl (by kernel_rfl) (by kernel_rfl) (by kernel_rfl) (fun _ _ _ h => h) (by kernel_rfl) (Ext.stable _) (fun _ hu => Ext.trans EW.out hu) (yieldsU_val rfl (fun u hu => by rfl)) ?_
                refine anyU_takeD (i := 12) (v := .agg (bv zs).toArray) 53 rfl rfl (by kernel_rfl) (by kernel_rfl) (by kernel_rfl) (fun _ _ _ h => h) (by kernel_rfl) (Ext.stable _) (fun _ hu => Ext.trans EW.out hu) (yieldsU_val rfl (fun u hu => by rfl)) ?_
                refine anyU_takeD (i := 13) (v := .int .i64 1) 54 rfl rfl (by kernel_rfl) (by kernel_rfl) (by kernel_rfl) (fun _ _ _ h => h) (by kernel_rfl) (Ext.stable _) (fun _ hu => Ext.trans EW.out hu) (yieldsU_val rfl (fun u hu => by rfl)) ?_
                refine anyU_one 14 2 _ rfl rfl (by kernel_rfl) ?_
                intro w9 h
                go_wp2_with fail
                change ∃ C' : World → Prop, _ ∧ _ ∧ _ ∧ anyU _ _ _ _ _ _ 2 _ _ _
                generalize hA : World.alloc _ _ = W
                have F14 := Lib.hid (show Dg W w9.heap.size zs by rw [← hA, ← HZS.out]; exact Dg.new w9)
                have z0 : W0.heap.size ≤ w9.heap.size := (Ext.trans EW.out h).size
                replace EW := Lib.hid (show Ext W0 W by rw [← hA]; exact Ext.alloc (Ext.trans EW.out h) _)
                clear hA h
                obtain ⟨b14, hb_⟩ : ∃ b, w9.heap.size = b := ⟨_, rfl⟩
                rw [hb_] at F14 z0  ⊢
                clear hb_
                have lo14 : W0.heap.size ≤ b14 := z0
                clear z0
                refine anchor EW.out ?_
                refine anyU_one 15 1 _ rfl rfl (by kernel_rfl) ?_
                intro w9 h
                refine list_storeD rfl (.tmp 11) (.tmp 53) rfl b14 rfl zs rfl HZL.out _ (F14.out.bel h) ?_
                intro wf df kf
                change ∃ C' : World → Prop, _ ∧ _ ∧ _ ∧ anyU _ _ _ _ _ _ 1 _ _ _
                replace EW := Lib.hid (show Ext W0 wf from Below.trans (Ext.trans EW.out h) (kf.below lo14))
                clear df kf h
                refine anchor EW.out ?_
                (try simp only [Act.put])
                refine anyU_tail 16 [] rfl rfl (by decide) (by kernel_rfl) ?_
                intro w9 h
                simp only [Act.put, List.filterMap_cons, List.filterMap_nil, List.getElem?_cons_succ, List.getElem?_cons_zero]
                go_wp2_with fail
                go_meet
                exact ⟨rfl, Lib.hid (Ext.trans E8.out (Ext.trans EW.out h))⟩
              case r14_4_6_8_9x =>
                intro w9 h
                go_wp2_with fail
                change ∃ C' : World → Prop, _ ∧ _ ∧ _ ∧ anyU _ _ _ _ _ _ 6 _ _ _
                generalize hA : World.alloc _ _ = W
                have F14 := Lib.hid (show Dg W w9.heap.size zs by rw [← hA, ← HZS.out]; exact Dg.new w9)
                have z0 : W0.heap.size ≤ w9.heap.size := (Ext.trans EW.out h).size
                replace EW := Lib.hid (show Ext W0 W by rw [← hA]; exact Ext.alloc (Ext.trans EW.out h) _)
                replace F8 := Lib.hid (show Dg W b8 dd by rw [← hA]; exact (F8.out.bel h).alloc _)
                replace S2 := Lib.hid (show SrcD W q2 (c + 1) qc2 (ps ++ dd) by rw [← hA]; exact (S2.out.below h).below (bel_alloc1 _ _))
                clear hA h
                obtain ⟨b14, hb_⟩ : ∃ b, w9.heap.size = b := ⟨_, rfl⟩
                rw [hb_] at F14 z0  ⊢
                clear hb_
                have lo14 : W0.heap.size ≤ b14 := z0
                clear z0
                refine anchor EW.out ?_
                refine anyU_one 10 5 _ rfl rfl (by kernel_rfl) ?_
                intro w9 h
                (try simp only [Act.put])
                go_wp2_with fail
                refine (climbTop_any A n q2 (c + 1) qc2 (ps ++ dd) dd zs 1 w9 (.inr ⟨.inr (.inr (.inr (.inr ⟨A, n, c, rfl, rfl, hAn, by omega, HS.out, by omega⟩))), HZS.out.symm, rfl⟩) (Lib.hid (S2.out.below h)) (Lib.hid (rng_append HP.out HDR.out)) HDL HDR (Lib.hid (hk.out.below (B0.out.trans ((Ext.trans EW.out h).mono B0.out.size))))).mono ?_
                rintro e W ⟨rfl, hb9⟩
                replace EW := Lib.hid (show Ext W0 W from Ext.trans (Ext.trans EW.out h) hb9)
                replace F14 := Lib.hid (show Dg W b14 zs from (F14.out.bel h).bel hb9)
                clear h hb9 S2
                go_wp2_with fail
                change ∃ C' : World → Prop, _ ∧ _ ∧ _ ∧ anyU _ _ _ _ _ _ 5 _ _ _
                refine anchor EW.out ?_
                refine anyU_takeD (i := 11) (v := .tuple #[.agg (bv zs).toArray, .int .i64 1]) 41 rfl rfl (by kernel_rfl) (by kernel_rfl) (by kernel_rfl) (fun _ _ _ h => h) (by kernel_rfl) (Ext.stable _) (fun _ hu => Ext.trans EW.out hu) (yieldsU_val rfl (fun u hu => by rfl)) ?_
                refine anyU_takeD (i := 12) (v := .agg (bv zs).toArray) 53 rfl rfl (by kernel_rfl) (by kernel_rfl) (by kernel_rfl) (fun _ _ _ h => h) (by kernel_rfl) (Ext.stable _) (fun _ hu => Ext.trans EW.out hu) (yieldsU_val rfl (fun u hu => by rfl)) ?_
                refine anyU_takeD (i := 13) (v := .int .i64 1) 54 rfl rfl (by kernel_rfl) (by kernel_rfl) (by kernel_rfl) (fun _ _ _ h => h) (by kernel_rfl) (Ext.stable _) (fun _ hu => Ext.trans EW.out hu) (yieldsU_val rfl (fun u hu => by rfl)) ?_
                refine anyU_one 15 1 _ rfl rfl (by kernel_rfl) ?_
                intro w9 h
                refine list_storeD rfl (.tmp 11) (.tmp 53) rfl b14 rfl zs rfl HZL.out _ (F14.out.bel h) ?_
                intro wf df kf
                change ∃ C' : World → Prop, _ ∧ _ ∧ _ ∧ anyU _ _ _ _ _ _ 1 _ _ _
                replace EW := Lib.hid (show Ext W0 wf from Below.trans (Ext.trans EW.out h) (kf.below lo14))
                clear df kf h
                refine anchor EW.out ?_
                (try simp only [Act.put])
                refine anyU_tail 16 [] rfl rfl (by decide) (by kernel_rfl) ?_
                intro w9 h
                simp only [Act.put, List.filterMap_cons, List.filterMap_nil, List.getElem?_cons_succ, List.getElem?_cons_zero]
                go_wp2_with fail
                go_meet
                exact ⟨rfl, Lib.hid (Ext.trans E8.out (Ext.trans EW.out h))⟩
            case r14_4_6_8x =>
              intro w9 h
              go_wp2_with fail
              change ∃ C' : World → Prop, _ ∧ _ ∧ _ ∧ anyU _ _ _ _ _ _ 7 _ _ _
              generalize hA : World.alloc _ _ = W
              have F14 := Lib.hid (show Dg W w9.heap.size zs by rw [← hA, ← HZS.out]; exact Dg.new w9)
              have z0 : W0.heap.size ≤ w9.heap.size := (Ext.trans EW.out h).size
              have NE14 : Hid (Value.ownBlock v1 ≠ some w9.heap.size) := Lib.hid (fun e => by have h1 := (ownR_lt O.out _ e).2; have h2 := h.size; omega)
              replace EW := Lib.hid (show Ext W0 W by rw [← hA]; exact Ext.alloc (Ext.trans EW.out h) _)
              replace F8 := Lib.hid (show Dg W b8 dd by rw [← hA]; exact (F8.out.bel h).alloc _)
              replace O := Lib.hid (show OwnR W W0.heap.size v1 (0 + c) ([] ++ ps) by rw [← hA]; exact ownR_below (ownR_below O.out h) (bel_alloc1 _ _))
              clear hA h
              obtain ⟨b14, hb_⟩ : ∃ b, w9.heap.size = b := ⟨_, rfl⟩
              rw [hb_] at F14 z0 NE14 ⊢
              clear hb_
              have lo14 : W0.heap.size ≤ b14 := z0
              clear z0
              refine anchor EW.out ?_
              refine anyU_one 9 6 _ rfl rfl (by kernel_rfl) ?_
              intro w9 h
              have z0 : W0.heap.size ≤ w9.heap.size := (Ext.trans EW.out h).size
              refine list_appX rfl (.tmp 48) (.tmp 50) rfl W0.heap.size v1 (0 + c) ([] ++ ps) rfl (ownR_below O.out h) b8 0 1 1 dd rfl (by rw [HDL.out]) (F8.out.bel h).bytes (by omega) z0 ?_
              intro v1 W o1 g1 l1
              change ∃ C' : World → Prop, _ ∧ _ ∧ _ ∧ anyU _ _ _ _ _ _ 6 _ _ _
              have z14 : b14 < w9.heap.size := Nat.lt_of_lt_of_le F14.out.lt h.size
              have N14 : Hid (v1.ownBlock ≠ some b14) := Lib.hid (fun e => by rcases l1 _ e with h1 | h1; exact NE14.out h1; omega)
              replace F14 := Lib.hid (show Dg W b14 _ from (F14.out.bel h).grown g1 NE14.out)
              have z8 : b8 < w9.heap.size := Nat.lt_of_lt_of_le F8.out.lt h.size
              have N8 : Hid (v1.ownBlock ≠ some b8) := Lib.hid (fun e => by rcases l1 _ e with h1 | h1; exact NE8.out h1; omega)
              replace F8 := Lib.hid (show Dg W b8 _ from (F8.out.bel h).grown g1 NE8.out)
              replace EW := Lib.hid (show Ext W0 W from grown_below (Ext.trans EW.out h) g1 z0 (fun g hg => (ownR_lt O.out g hg).1))
              obtain ⟨q2, qc2, rfl, hs2, _⟩ := ownR_src o1
              have e1 : 0 + c + 1 = c + 1 := by omega
              rw [e1] at hs2 ⊢
              have S2 := Lib.hid (show SrcD W q2 (c + 1) qc2 (ps ++ dd) from hs2)
              clear e1
              clear hs2 o1 g1 l1 h z0 O NE14 N14 z14 NE8 N8 z8
              (try simp only [Act.put])
              refine anchor EW.out ?_
              refine anyU_one 10 5 _ rfl rfl (by kernel_rfl) ?_
              intro w9 h
              (try simp only [Act.put])
              go_wp2_with fail
              refine (climbTop_any A n q2 (c + 1) qc2 (ps ++ dd) dd zs 1 w9 (.inr ⟨.inr (.inr (.inr (.inr ⟨A, n, c, rfl, rfl, hAn, by omega, HS.out, by omega⟩))), HZS.out.symm, rfl⟩) (Lib.hid (S2.out.below h)) (Lib.hid (rng_append HP.out HDR.out)) HDL HDR (Lib.hid (hk.out.below (B0.out.trans ((Ext.trans EW.out h).mono B0.out.size))))).mono ?_
              rintro e W ⟨rfl, hb9⟩
              replace EW := Lib.hid (show Ext W0 W from Ext.trans (Ext.trans EW.out h) hb9)
              replace F14 := Lib.hid (show Dg W b14 zs from (F14.out.bel h).bel hb9)
              clear h hb9 S2
              go_wp2_with fail
              change ∃ C' : World → Prop, _ ∧ _ ∧ _ ∧ anyU _ _ _ _ _ _ 5 _ _ _
              refine anchor EW.out ?_
              refine anyU_takeD (i := 11) (v := .tuple #[.agg (bv zs).toArray, .int .i64 1]) 41 rfl rfl (by kernel_rfl) (by kernel_rfl) (by kernel_rfl) (fun _ _ _ h => h) (by kernel_rfl) (Ext.stable _) (fun _ hu => Ext.trans EW.out hu) (yieldsU_val rfl (fun u hu => by rfl)) ?_
              refine anyU_takeD (i := 12) (v := .agg (bv zs).toArray) 53 rfl rfl (by kernel_rfl) (by kernel_rfl) (by kernel_rfl) (fun _ _ _ h => h) (by kernel_rfl) (Ext.stable _) (fun _ hu => Ext.trans EW.out hu) (yieldsU_val rfl (fun u hu => by rfl)) ?_
              refine anyU_takeD (i := 13) (v := .int .i64 1) 54 rfl rfl (by kernel_rfl) (by kernel_rfl) (by kernel_rfl) (fun _ _ _ h => h) (by kernel_rfl) (Ext.stable _) (fun _ hu => Ext.trans EW.out hu) (yieldsU_val rfl (fun u hu => by rfl)) ?_
              refine anyU_one 15 1 _ rfl rfl (by kernel_rfl) ?_
              intro w9 h
              refine list_storeD rfl (.tmp 11) (.tmp 53) rfl b14 rfl zs rfl HZL.out _ (F14.out.bel h) ?_
              intro wf df kf
              change ∃ C' : World → Prop, _ ∧ _ ∧ _ ∧ anyU _ _ _ _ _ _ 1 _ _ _
              replace EW := Lib.hid (show Ext W0 wf from Below.trans (Ext.trans EW.out h) (kf.below lo14))
              clear df kf h
              refine anchor EW.out ?_
              (try simp only [Act.put])
              refine anyU_tail 16 [] rfl rfl (by decide) (by kernel_rfl) ?_
              intro w9 h
              simp only [Act.put, List.filterMap_cons, List.filterMap_nil, List.getElem?_cons_succ, List.getElem?_cons_zero]
              go_wp2_with fail
              go_meet
              exact ⟨rfl, Lib.hid (Ext.trans E8.out (Ext.trans EW.out h))⟩
          case r14_4_6x =>
            intro w9 h
            go_wp2_with fail
            change ∃ C' : World → Prop, _ ∧ _ ∧ _ ∧ anyU _ _ _ _ _ _ 8 _ _ _
            generalize hA : World.alloc _ _ = W
            have F14 := Lib.hid (show Dg W w9.heap.size zs by rw [← hA, ← HZS.out]; exact Dg.new w9)
            have z0 : W0.heap.size ≤ w9.heap.size := (Ext.trans EW.out h).size
            have NE14 : Hid (Value.ownBlock v1 ≠ some w9.heap.size) := Lib.hid (fun e => by have h1 := (ownR_lt O.out _ e).2; have h2 := h.size; omega)
            replace EW := Lib.hid (show Ext W0 W by rw [← hA]; exact Ext.alloc (Ext.trans EW.out h) _)
            replace O := Lib.hid (show OwnR W W0.heap.size v1 (0 + c) ([] ++ ps) by rw [← hA]; exact ownR_below (ownR_below O.out h) (bel_alloc1 _ _))
            clear hA h
            obtain ⟨b14, hb_⟩ : ∃ b, w9.heap.size = b := ⟨_, rfl⟩
            rw [hb_] at F14 z0 NE14 ⊢
            clear hb_
            have lo14 : W0.heap.size ≤ b14 := z0
            clear z0
            refine anchor EW.out ?_
            refine anyU_one 8 7 _ rfl rfl (by kernel_rfl) ?_
            intro w9 h
            refine list_build1 (by rfl) (.tmp 49) rfl (bv dd) rfl (by rw [bv_len]; exact HDL.out) ?_
            change ∃ C' : World → Prop, _ ∧ _ ∧ _ ∧ anyU _ _ _ _ _ _ 7 _ _ _
            generalize hA : World.alloc _ _ = W
            have F8 := Lib.hid (show Dg W w9.heap.size dd by rw [← hA]; exact Dg.box w9 HDL.out)
            have z0 : W0.heap.size ≤ w9.heap.size := (Ext.trans EW.out h).size
            have NE8 : Hid (Value.ownBlock v1 ≠ some w9.heap.size) := Lib.hid (fun e => by have h1 := (ownR_lt O.out _ e).2; have h2 := h.size; omega)
            replace EW := Lib.hid (show Ext W0 W by rw [← hA]; exact Ext.alloc (Ext.trans EW.out h) _)
            replace F14 := Lib.hid (show Dg W b14 zs by rw [← hA]; exact (F14.out.bel h).alloc _)
            replace O := Lib.hid (show OwnR W W0.heap.size v1 (0 + c) ([] ++ ps) by rw [← hA]; exact ownR_below (ownR_below O.out h) (bel_alloc1 _ _))
            clear hA h
            obtain ⟨b8, hb_⟩ : ∃ b, w9.heap.size = b := ⟨_, rfl⟩
            rw [hb_] at F8 z0 NE8 ⊢
            clear hb_
            have lo8 : W0.heap.size ≤ b8 := z0
            clear z0
            refine anchor EW.out ?_
            refine anyU_one 9 6 _ rfl rfl (by kernel_rfl) ?_
            intro w9 h
            have z0 : W0.heap.size ≤ w9.heap.size := (Ext.trans EW.out h).size
            refine list_appX rfl (.tmp 48) (.tmp 50) rfl W0.heap.size v1 (0 + c) ([] ++ ps) rfl (ownR_below O.out h) b8 0 1 1 dd rfl (by rw [HDL.out]) (F8.out.bel h).bytes (by omega) z0 ?_
            intro v1 W o1 g1 l1
            change ∃ C' : World → Prop, _ ∧ _ ∧ _ ∧ anyU _ _ _ _ _ _ 6 _ _ _
            have z14 : b14 < w9.heap.size := Nat.lt_of_lt_of_le F14.out.lt h.size
            have N14 : Hid (v1.ownBlock ≠ some b14) := Lib.hid (fun e => by rcases l1 _ e with h1 | h1; exact NE14.out h1; omega)
            replace F14 := Lib.hid (show Dg W b14 _ from (F14.out.bel h).grown g1 NE14.out)
            have z8 : b8 < w9.heap.size := Nat.lt_of_lt_of_le F8.out.lt h.size
            have N8 : Hid (v1.ownBlock ≠ some b8) := Lib.hid (fun e => by rcases l1 _ e with h1 | h1; exact NE8.out h1; omega)
            replace F8 := Lib.hid (show Dg W b8 _ from (F8.out.bel h).grown g1 NE8.out)
            replace EW := Lib.hid (show Ext W0 W from grown_below (Ext.trans EW.out h) g1 z0 (fun g hg => (ownR_lt O.out g hg).1))
            obtain ⟨q2, qc2, rfl, hs2, _⟩ := ownR_src o1
            have e1 : 0 + c + 1 = c + 1 := by omega
            rw [e1] at hs2 ⊢
            have S2 := Lib.hid (show SrcD W q2 (c + 1) qc2 (ps ++ dd) from hs2)
            clear e1
            clear hs2 o1 g1 l1 h z0 O NE14 N14 z14 NE8 N8 z8
            (try simp only [Act.put])
            refine anchor EW.out ?_
            refine anyU_one 10 5 _ rfl rfl (by kernel_rfl) ?_
            intro w9 h
            (try simp only [Act.put])
            go_wp2_with fail
            refine (climbTop_any A n q2 (c + 1) qc2 (ps ++ dd) dd zs 1 w9 (.inr ⟨.inr (.inr (.inr (.inr ⟨A, n, c, rfl, rfl, hAn, by omega, HS.out, by omega⟩))), HZS.out.symm, rfl⟩) (Lib.hid (S2.out.below h)) (Lib.hid (rng_append HP.out HDR.out)) HDL HDR (Lib.hid (hk.out.below (B0.out.trans ((Ext.trans EW.out h).mono B0.out.size))))).mono ?_
            rintro e W ⟨rfl, hb9⟩
            replace EW := Lib.hid (show Ext W0 W from Ext.trans (Ext.trans EW.out h) hb9)
            replace F14 := Lib.hid (show Dg W b14 zs from (F14.out.bel h).bel hb9)
            clear h hb9 S2
            go_wp2_with fail
            change ∃ C' : World → Prop, _ ∧ _ ∧ _ ∧ anyU _ _ _ _ _ _ 5 _ _ _
            refine anchor EW.out ?_
            refine anyU_takeD (i := 11) (v := .tuple #[.agg (bv zs).toArray, .int .i64 1]) 41 rfl rfl (by kernel_rfl) (by kernel_rfl) (by kernel_rfl) (fun _ _ _ h => h) (by kernel_rfl) (Ext.stable _) (fun _ hu => Ext.trans EW.out hu) (yieldsU_val rfl (fun u hu => by rfl)) ?_
            refine anyU_takeD (i := 12) (v := .agg (bv zs).toArray) 53 rfl rfl (by kernel_rfl) (by kernel_rfl) (by kernel_rfl) (fun _ _ _ h => h) (by kernel_rfl) (Ext.stable _) (fun _ hu => Ext.trans EW.out hu) (yieldsU_val rfl (fun u hu => by rfl)) ?_
            refine anyU_takeD (i := 13) (v := .int .i64 1) 54 rfl rfl (by kernel_rfl) (by kernel_rfl) (by kernel_rfl) (fun _ _ _ h => h) (by kernel_rfl) (Ext.stable _) (fun _ hu => Ext.trans EW.out hu) (yieldsU_val rfl (fun u hu => by rfl)) ?_
            refine anyU_one 15 1 _ rfl rfl (by kernel_rfl) ?_
            intro w9 h
            refine list_storeD rfl (.tmp 11) (.tmp 53) rfl b14 rfl zs rfl HZL.out _ (F14.out.bel h) ?_
            intro wf df kf
            change ∃ C' : World → Prop, _ ∧ _ ∧ _ ∧ anyU _ _ _ _ _ _ 1 _ _ _
            replace EW := Lib.hid (show Ext W0 wf from Below.trans (Ext.trans EW.out h) (kf.below lo14))
            clear df kf h
            refine anchor EW.out ?_
            (try simp only [Act.put])
            refine anyU_tail 16 [] rfl rfl (by decide) (by kernel_rfl) ?_
            intro w9 h
            simp only [Act.put, List.filterMap_cons, List.filterMap_nil, List.getElem?_cons_succ, List.getElem?_cons_zero]
            go_wp2_with fail
            go_meet
            exact ⟨rfl, Lib.hid (Ext.trans E8.out (Ext.trans EW.out h))⟩
        case r8_4x =>
          intro w9 h
          refine list_build1 (by rfl) (.tmp 49) rfl (bv dd) rfl (by rw [bv_len]; exact HDL.out) ?_
          change ∃ C' : World → Prop, _ ∧ _ ∧ _ ∧ anyU _ _ _ _ _ _ 9 _ _ _
          generalize hA : World.alloc _ _ = W
          have F8 := Lib.hid (show Dg W w9.heap.size dd by rw [← hA]; exact Dg.box w9 HDL.out)
          have z0 : W0.heap.size ≤ w9.heap.size := (Ext.trans EW.out h).size
          have NE8 : Hid (Value.ownBlock (.slice (some ⟨e4, 0, none⟩) 0 0) ≠ some w9.heap.size) := Lib.hid (fun e => by have h1 := (ownR_lt O.out _ e).2; have h2 := h.size; omega)
          replace EW := Lib.hid (show Ext W0 W by rw [← hA]; exact Ext.alloc (Ext.trans EW.out h) _)
          replace O := Lib.hid (show OwnR W W0.heap.size (.slice (some ⟨e4, 0, none⟩) 0 0) 0 [] by rw [← hA]; exact ownR_below (ownR_below O.out h) (bel_alloc1 _ _))
          clear hA h
          obtain ⟨b8, hb_⟩ : ∃ b, w9.heap.size = b := ⟨_, rfl⟩
          rw [hb_] at F8 z0 NE8 ⊢
          clear hb_
          have lo8 : W0.heap.size ≤ b8 := z0
          clear z0
          refine anchor EW.out ?_
          refine anyU_two 6 14 8 _ _ rfl rfl rfl rfl (by kernel_rfl) ?r6_4_8x ?r14_4_8x
          case r6_4_8x =>
            intro w9 h
            have z0 : W0.heap.size ≤ w9.heap.size := (Ext.trans EW.out h).size
            refine list_appXS rfl rfl (.tmp 46) (.tmp 47) rfl W0.heap.size (.slice (some ⟨e4, 0, none⟩) 0 0) 0 [] rfl (ownR_below O.out h) q c qc ps rfl (S0.out.below (Ext.trans EW.out h)) (by omega) ?hq z0 ?_
            case hq => exact srcD_some (S0.out.below (Ext.trans EW.out h)) HSP.out
            intro v1 W o1 g1 l1
            change ∃ C' : World → Prop, _ ∧ _ ∧ _ ∧ anyU _ _ _ _ _ _ 8 _ _ _
            have z8 : b8 < w9.heap.size := Nat.lt_of_lt_of_le F8.out.lt h.size
            have N8 : Hid (v1.ownBlock ≠ some b8) := Lib.hid (fun e => by rcases l1 _ e with h1 | h1; exact NE8.out h1; omega)
            replace F8 := Lib.hid (show Dg W b8 _ from (F8.out.bel h).grown g1 NE8.out)
            replace EW := Lib.hid (show Ext W0 W from grown_below (Ext.trans EW.out h) g1 z0 (fun g hg => (ownR_lt O.out g hg).1))
            replace O := Lib.hid o1
            replace NE8 := N8
            clear z8
            clear o1 g1 l1 h z0
            (try simp only [Act.put])
            refine anchor EW.out ?_
            refine anyU_two 9 14 7 _ _ rfl rfl rfl rfl (by kernel_rfl) ?r9_4_6_8x ?r14_4_6_8x
            case r9_4_6_8x =>
              intro w9 h
              have z0 : W0.heap.size ≤ w9.heap.size := (Ext.trans EW.out h).size
              refine list_appX rfl (.tmp 48) (.tmp 50) rfl W0.heap.size v1 (0 + c) ([] ++ ps) rfl (ownR_below O.out h) b8 0 1 1 dd rfl (by rw [HDL.out]) (F8.out.bel h).bytes (by omega) z0 ?_
              intro v1 W o1 g1 l1
              change ∃ C' : World → Prop, _ ∧ _ ∧ _ ∧ anyU _ _ _ _ _ _ 7 _ _ _
              have z8 : b8 < w9.heap.size := Nat.lt_of_lt_of_le F8.out.lt h.size
              have N8 : Hid (v1.ownBlock ≠ some b8) := Lib.hid (fun e => by rcases l1 _ e with h1 | h1; exact NE8.out h1; omega)
              replace F8 := Lib.hid (show Dg W b8 _ from (F8.out.bel h).grown g1 NE8.out)
              replace EW := Lib.hid (show Ext W0 W from grown_below (Ext.trans EW.out h) g1 z0 (fun g hg => (ownR_lt O.out g hg).1))
              obtain ⟨q2, qc2, rfl, hs2, _⟩ := ownR_src o1
              have e1 : 0 + c + 1 = c + 1 := by omega
              rw [e1] at hs2 ⊢
              have S2 := Lib.hid (show SrcD W q2 (c + 1) qc2 (ps ++ dd) from hs2)
              clear e1
              clear hs2 o1 g1 l1 h z0 O NE8 N8 z8
              (try simp only [Act.put])
              refine anchor EW.out ?_
              refine anyU_two 10 14 6 _ _ rfl rfl rfl rfl (by kernel_rfl) ?r10_4_6_8_9x ?r14_4_6_8_9x
              case r10_4_6_8_9x =>
                intro w9 h
                (try simp only [Act.put])
                go_wp2_with fail
                refine (climbTop_any A n q2 (c + 1) qc2 (ps ++ dd) dd zs 1 w9 (.inr ⟨.inr (.inr (.inr (.inr ⟨A, n, c, rfl, rfl, hAn, by omega, HS.out, by omega⟩))), HZS.out.symm, rfl⟩) (Lib.hid (S2.out.below h)) (Lib.hid (rng_append HP.out HDR.out)) HDL HDR (Lib.hid (hk.out.below (B0.out.trans ((Ext.trans EW.out h).mono B0.out.size))))).mono ?_
                rintro e W ⟨rfl, hb9⟩
                replace EW := Lib.hid (show Ext W0 W from Ext.trans (Ext.trans EW.out h) hb9)
                clear h hb9 S2
                go_wp2_with fail
                change ∃ C' : World → Prop, _ ∧ _ ∧ _ ∧ anyU _ _ _ _ _ _ 6 _ _ _
                refine anchor EW.out ?_
                refine anyU_takeD (i := 11) (v := .tuple #[.agg (bv zs).toArray, .int .i64 1]) 41 rfl rfl (by kernel_rfl) (by kernel_rfl) (by kernel_rfl) (fun _ _ _ h => h) (by kernel_rfl) (Ext.stable _) (fun _ hu => Ext.trans EW.out hu) (yieldsU_val rfl (fun u hu => by rfl)) ?_
                refine anyU_takeD (i := 12) (v := .agg (bv zs).toArray) 53 rfl rfl (by kernel_rfl) (by kernel_rfl) (by kernel_rfl) (fun _ _ _ h => h) (by kernel_rfl) (Ext.stable _) (fun _ hu => Ext.trans EW.out hu) (yieldsU_val rfl (fun u hu => by rfl)) ?_
                refine anyU_takeD (i := 13) (v := .int .i64 1) 54 rfl rfl (by kernel_rfl) (by kernel_rfl) (by kernel_rfl) (fun _ _ _ h => h) (by kernel_rfl) (Ext.stable _) (fun _ hu => Ext.trans EW.out hu) (yieldsU_val rfl (fun u hu => by rfl)) ?_
                refine anyU_one 14 2 _ rfl rfl (by kernel_rfl) ?_
                intro w9 h
                go_wp2_with fail
                change ∃ C' : World → Prop, _ ∧ _ ∧ _ ∧ anyU _ _ _ _ _ _ 2 _ _ _
                generalize hA : World.alloc _ _ = W
                have F14 := Lib.hid (show Dg W w9.heap.size zs by rw [← hA, ← HZS.out]; exact Dg.new w9)
                have z0 : W0.heap.size ≤ w9.heap.size := (Ext.trans EW.out h).size
                replace EW := Lib.hid (show Ext W0 W by rw [← hA]; exact Ext.alloc (Ext.trans EW.out h) _)
                clear hA h
                obtain ⟨b14, hb_⟩ : ∃ b, w9.heap.size = b := ⟨_, rfl⟩
                rw [hb_] at F14 z0  ⊢
                clear hb_
                have lo14 : W0.heap.size ≤ b14 := z0
                clear z0
                refine anchor EW.out ?_
                refine anyU_one 15 1 _ rfl rfl (by kernel_rfl) ?_
                intro w9 h
                refine list_storeD rfl (.tmp 11) (.tmp 53) rfl b14 rfl zs rfl HZL.out _ (F14.out.bel h) ?_
                intro wf df kf
                change ∃ C' : World → Prop, _ ∧ _ ∧ _ ∧ anyU _ _ _ _ _ _ 1 _ _ _
                replace EW := Lib.hid (show Ext W0 wf from Below.trans (Ext.trans EW.out h) (kf.below lo14))
                clear df kf h
                refine anchor EW.out ?_
                (try simp only [Act.put])
                refine anyU_tail 16 [] rfl rfl (by decide) (by kernel_rfl) ?_
                intro w9 h
                simp only [Act.put, List.filterMap_cons, List.filterMap_nil, List.getElem?_cons_succ, List.getElem?_cons_zero]
                go_wp2_with fail
                go_meet
                exact ⟨rfl, Lib.hid (Ext.trans E8.out (Ext.trans EW.out h))⟩
              case r14_4_6_8_9x =>
                intro w9 h
                go_wp2_with fail
                change ∃ C' : World → Prop, _ ∧ _ ∧ _ ∧ anyU _ _ _ _ _ _ 6 _ _ _
                generalize hA : World.alloc _ _ = W
                have F14 := Lib.hid (show Dg W w9.heap.size zs by rw [← hA, ← HZS.out]; exact Dg.new w9)
                have z0 : W0.heap.size ≤ w9.heap.size := (Ext.trans EW.out h).size
                replace EW := Lib.hid (show Ext W0 W by rw [← hA]; exact Ext.alloc (Ext.trans EW.out h) _)
                replace F8 := Lib.hid (show Dg W b8 dd by rw [← hA]; exact (F8.out.bel h).alloc _)
                replace S2 := Lib.hid (show SrcD W q2 (c + 1) qc2 (ps ++ dd) by rw [← hA]; exact (S2.out.below h).below (bel_alloc1 _ _))
                clear hA h
                obtain ⟨b14, hb_⟩ : ∃ b, w9.heap.size = b := ⟨_, rfl⟩
                rw [hb_] at F14 z0  ⊢
                clear hb_
                have lo14 : W0.heap.size ≤ b14 := z0
                clear z0
                refine anchor EW.out ?_
                refine anyU_one 10 5 _ rfl rfl (by kernel_rfl) ?_
                intro w9 h
                (try simp only [Act.put])
                go_wp2_with fail
                refine (climbTop_any A n q2 (c + 1) qc2 (ps ++ dd) dd zs 1 w9 (.inr ⟨.inr (.inr (.inr (.inr ⟨A, n, c, rfl, rfl, hAn, by omega, HS.out, by omega⟩))), HZS.out.symm, rfl⟩) (Lib.hid (S2.out.below h)) (Lib.hid (rng_append HP.out HDR.out)) HDL HDR (Lib.hid (hk.out.below (B0.out.trans ((Ext.trans EW.out h).mono B0.out.size))))).mono ?_
                rintro e W ⟨rfl, hb9⟩
                replace EW := Lib.hid (show Ext W0 W from Ext.trans (Ext.trans EW.out h) hb9)
                replace F14 := Lib.hid (show Dg W b14 zs from (F14.out.bel h).bel hb9)
                clear h hb9 S2
                go_wp2_with fail
                change ∃ C' : World → Prop, _ ∧ _ ∧ _ ∧ anyU _ _ _ _ _ _ 5 _ _ _
                refine anchor EW.out ?_
                refine anyU_takeD (i := 11) (v := .tuple #[.agg (bv zs).toArray, .int .i64 1]) 41 rfl rfl (by kernel_rfl) (by kernel_rfl) (by kernel_rfl) (fun _ _ _ h => h) (by kernel_rfl) (Ext.stable _) (fun _ hu => Ext.trans EW.out hu) (yieldsU_val rfl (fun u hu => by rfl)) ?_
                refine anyU_takeD (i := 12) (v := .agg (bv zs).toArray) 53 rfl rfl (by kernel_rfl) (by kernel_rfl) (by kernel_rfl) (fun _ _ _ h => h) (by kernel_rfl) (Ext.stable _) (fun _ hu => Ext.trans EW.out hu) (yieldsU_val rfl (fun u hu => by rfl)) ?_
                refine anyU_takeD (i := 13) (v := .int .i64 1) 54 rfl rfl (by kernel_rfl) (by kernel_rfl) (by kernel_rfl) (fun _ _ _ h => h) (by kernel_rfl) (Ext.stable _) (fun _ hu => Ext.trans EW.out hu) (yieldsU_val rfl (fun u hu => by rfl)) ?_
                refine anyU_one 15 1 _ rfl rfl (by kernel_rfl) ?_
                intro w9 h
                refine list_storeD rfl (.tmp 11) (.tmp 53) rfl b14 rfl zs rfl HZL.out _ (F14.out.bel h) ?_
                intro wf df kf
                change ∃ C' : World → Prop, _ ∧ _ ∧ _ ∧ anyU _ _ _ _ _ _ 1 _ _ _
                replace EW := Lib.hid (show Ext W0 wf from Below.trans (Ext.trans EW.out h) (kf.below lo14))
                clear df kf h
                refine anchor EW.out ?_
                (try simp only [Act.put])
                refine anyU_tail 16 [] rfl rfl (by decide) (by kernel_rfl) ?_
                intro w9 h
                simp only [Act.put, List.filterMap_cons, List.filterMap_nil, List.getElem?_cons_succ, List.getElem?_cons_zero]
                go_wp2_with fail
                go_meet
                exact ⟨rfl, Lib.hid (Ext.trans E8.out (Ext.trans EW.out h))⟩
            case r14_4_6_8x =>
              intro w9 h
              go_wp2_with fail
              change ∃ C' : World → Prop, _ ∧ _ ∧ _ ∧ anyU _ _ _ _ _ _ 7 _ _ _
              generalize hA : World.alloc _ _ = W
              have F14 := Lib.hid (show Dg W w9.heap.size zs by rw [← hA, ← HZS.out]; exact Dg.new w9)
              have z0 : W0.heap.size ≤ w9.heap.size := (Ext.trans EW.out h).size
              have NE14 : Hid (Value.ownBlock v1 ≠ some w9.heap.size) := Lib.hid (fun e => by have h1 := (ownR_lt O.out _ e).2; have h2 := h.size; omega)
              replace EW := Lib.hid (show Ext W0 W by rw [← hA]; exact Ext.alloc (Ext.trans EW.out h) _)
              replace F8 := Lib.hid (show Dg W b8 dd by rw [← hA]; exact (F8.out.bel h).alloc _)
              replace O := Lib.hid (show OwnR W W0.heap.size v1 (0 + c) ([] ++ ps) by rw [← hA]; exact ownR_below (ownR_below O.out h) (bel_alloc1 _ _))
              clear hA h
              obtain ⟨b14, hb_⟩ : ∃ b, w9.heap.size = b := ⟨_, rfl⟩
              rw [hb_] at F14 z0 NE14 ⊢
              clear hb_
              have lo14 : W0.heap.size ≤ b14 := z0
              clear z0
              refine anchor EW.out ?_
              refine anyU_one 9 6 _ rfl rfl (by kernel_rfl) ?_
              intro w9 h
              have z0 : W0.heap.size ≤ w9.heap.size := (Ext.trans EW.out h).size
              refine list_appX rfl (.tmp 48) (.tmp 50) rfl W0.heap.size v1 (0 + c) ([] ++ ps) rfl (ownR_below O.out h) b8 0 1 1 dd rfl (by rw [HDL.out]) (F8.out.bel h).bytes (by omega) z0 ?_
              intro v1 W o1 g1 l1
              change ∃ C' : World → Prop, _ ∧ _ ∧ _ ∧ anyU _ _ _ _ _ _ 6 _ _ _
              have z14 : b14 < w9.heap.size := Nat.lt_of_lt_of_le F14.out.lt h.size
              have N14 : Hid (v1.ownBlock ≠ some b14) := Lib.hid (fun e => by rcases l1 _ e with h1 | h1; exact NE14.out h1; omega)
              replace F14 := Lib.hid (show Dg W b14 _ from (F14.out.bel h).grown g1 NE14.out)
              have z8 : b8 < w9.heap.size := Nat.lt_of_lt_of_le F8.out.lt h.size
              have N8 : Hid (v1.ownBlock ≠ some b8) := Lib.hid (fun e => by rcases l1 _ e with h1 | h1; exact NE8.out h1; omega)
              replace F8 := Lib.hid (show Dg W b8 _ from (F8.out.bel h).grown g1 NE8.out)
              replace EW := Lib.hid (show Ext W0 W from grown_below (Ext.trans EW.out h) g1 z0 (fun g hg => (ownR_lt O.out g hg).1))
              obtain ⟨q2, qc2, rfl, hs2, _⟩ := ownR_src o1
              have e1 : 0 + c + 1 = c + 1 := by omega
              rw [e1] at hs2 ⊢
              have S2 := Lib.hid (show SrcD W q2 (c + 1) qc2 (ps ++ dd) from hs2)
              clear e1
              clear hs2 o1 g1 l1 h z0 O NE14 N14 z14 NE8 N8 z8
              (try simp only [Act.put])
              refine anchor EW.out ?_
              refine anyU_one 10 5 _ rfl rfl (by kernel_rfl) ?_
              intro w9 h
              (try simp only [Act.put])
              go_wp2_with fail
              refine (climbTop_any A n q2 (c + 1) qc2 (ps ++ dd) dd zs 1 w9 (.inr ⟨.inr (.inr (.inr (.inr ⟨A, n, c, rfl, rfl, hAn, by omega, HS.out, by omega⟩))), HZS.out.symm, rfl⟩) (Lib.hid (S2.out.below h)) (Lib.hid (rng_append HP.out HDR.out)) HDL HDR (Lib.hid (hk.out.below (B0.out.trans ((Ext.trans EW.out h).mono B0.out.size))))).mono ?_
              rintro e W ⟨rfl, hb9⟩
              replace EW := Lib.hid (show Ext W0 W from Ext.trans (Ext.trans EW.out h) hb9)
              replace F14 := Lib.hid (show Dg W b14 zs from (F14.out.bel h).bel hb9)
              clear h hb9 S2
              go_wp2_with fail
              change ∃ C' : World → Prop, _ ∧ _ ∧ _ ∧ anyU _ _ _ _ _ _ 5 _ _ _
              refine anchor EW.out ?_
              refine anyU_takeD (i := 11) (v := .tuple #[.agg (bv zs).toArray, .int .i64 1]) 41 rfl rfl (by kernel_rfl) (by kernel_rfl) (by kernel_rfl) (fun _ _ _ h => h) (by kernel_rfl) (Ext.stable _) (fun _ hu => Ext.trans EW.out hu) (yieldsU_val rfl (fun u hu => by rfl)) ?_
              refine anyU_takeD (i := 12) (v := .agg (bv zs).toArray) 53 rfl rfl (by kernel_rfl) (by kernel_rfl) (by kernel_rfl) (fun _ _ _ h => h) (by kernel_rfl) (Ext.stable _) (fun _ hu => Ext.trans EW.out hu) (yieldsU_val rfl (fun u hu => by rfl)) ?_
              refine anyU_takeD (i := 13) (v := .int .i64 1) 54 rfl rfl (by kernel_rfl) (by kernel_rfl) (by kernel_rfl) (fun _ _ _ h => h) (by kernel_rfl) (Ext.stable _) (fun _ hu => Ext.trans EW.out hu) (yieldsU_val rfl (fun u hu => by rfl)) ?_
              refine anyU_one 15 1 _ rfl rfl (by kernel_rfl) ?_
              intro w9 h
              refine list_storeD rfl (.tmp 11) (.tmp 53) rfl b14 rfl zs rfl HZL.out _ (F14.out.bel h) ?_
              intro wf df kf
              change ∃ C' : World → Prop, _ ∧ _ ∧ _ ∧ anyU _ _ _ _ _ _ 1 _ _ _
              replace EW := Lib.hid (show Ext W0 wf from Below.trans (Ext.trans EW.out h) (kf.below lo14))
              clear df kf h
              refine anchor EW.out ?_
              (try simp only [Act.put])
              refine anyU_tail 16 [] rfl rfl (by decide) (by kernel_rfl) ?_
              intro w9 h
              simp only [Act.put, List.filterMap_cons, List.filterMap_nil, List.getElem?_cons_succ, List.getElem?_cons_zero]
              go_wp2_with fail
              go_meet
              exact ⟨rfl, Lib.hid (Ext.trans E8.out (Ext.trans EW.out h))⟩
          case r14_4_8x =>
            intro w9 h
            go_wp2_with fail
            change ∃ C' : World → Prop, _ ∧ _ ∧ _ ∧ anyU _ _ _ _ _ _ 8 _ _ _
            generalize hA : World.alloc _ _ = W
            have F14 := Lib.hid (show Dg W w9.heap.size zs by rw [← hA, ← HZS.out]; exact Dg.new w9)
            have z0 : W0.heap.size ≤ w9.heap.size := (Ext.trans EW.out h).size
            have NE14 : Hid (Value.ownBlock (.slice (some ⟨e4, 0, none⟩) 0 0) ≠ some w9.heap.size) := Lib.hid (fun e => by have h1 := (ownR_lt O.out _ e).2; have h2 := h.size; omega)
            replace EW := Lib.hid (show Ext W0 W by rw [← hA]; exact Ext.alloc (Ext.trans EW.out h) _)
            replace F8 := Lib.hid (show Dg W b8 dd by rw [← hA]; exact (F8.out.bel h).alloc _)
            replace O := Lib.hid (show OwnR W W0.heap.size (.slice (some ⟨e4, 0, none⟩) 0 0) 0 [] by rw [← hA]; exact ownR_below (ownR_below O.out h) (bel_alloc1 _ _))
            clear hA h
            obtain ⟨b14, hb_⟩ : ∃ b, w9.heap.size = b := ⟨_, rfl⟩
            rw [hb_] at F14 z0 NE14 ⊢
            clear hb_
            have lo14 : W0.heap.size ≤ b14 := z0
            clear z0
            refine anchor EW.out ?_
            refine anyU_one 6 7 _ rfl rfl (by kernel_rfl) ?_
            intro w9 h
            have z0 : W0.heap.size ≤ w9.heap.size := (Ext.trans EW.out h).size
            refine list_appXS rfl rfl (.tmp 46) (.tmp 47) rfl W0.heap.size (.slice (some ⟨e4, 0, none⟩) 0 0) 0 [] rfl (ownR_below O.out h) q c qc ps rfl (S0.out.below (Ext.trans EW.out h)) (by omega) ?hq z0 ?_
            case hq => exact srcD_some (S0.out.below (Ext.trans EW.out h)) HSP.out
            intro v1 W o1 g1 l1
            change ∃ C' : World → Prop, _ ∧ _ ∧ _ ∧ anyU _ _ _ _ _ _ 7 _ _ _
            have z14 : b14 < w9.heap.size := Nat.lt_of_lt_of_le F14.out.lt h.size
            have N14 : Hid (v1.ownBlock ≠ some b14) := Lib.hid (fun e => by rcases l1 _ e with h1 | h1; exact NE14.out h1; omega)
            replace F14 := Lib.hid (show Dg W b14 _ from (F14.out.bel h).grown g1 NE14.out)
            have z8 : b8 < w9.heap.size := Nat.lt_of_lt_of_le F8.out.lt h.size
            have N8 : Hid (v1.ownBlock ≠ some b8) := Lib.hid (fun e => by rcases l1 _ e with h1 | h1; exact NE8.out h1; omega)
            replace F8 := Lib.hid (show Dg W b8 _ from (F8.out.bel h).grown g1 NE8.out)
            replace EW := Lib.hid (show Ext W0 W from grown_below (Ext.trans EW.out h) g1 z0 (fun g hg => (ownR_lt O.out g hg).1))
            replace O := Lib.hid o1
            replace NE14 := N14
            clear z14
            replace NE8 := N8
            clear z8
            clear o1 g1 l1 h z0
            (try simp only [Act.put])
            refine anchor EW.out ?_
            refine anyU_one 9 6 _ rfl rfl (by kernel_rfl) ?_
            intro w9 h
            have z0 : W0.heap.size ≤ w9.heap.size := (Ext.trans EW.out h).size
            refine list_appX rfl (.tmp 48) (.tmp 50) rfl W0.heap.size v1 (0 + c) ([] ++ ps) rfl (ownR_below O.out h) b8 0 1 1 dd rfl (by rw [HDL.out]) (F8.out.bel h).bytes (by omega) z0 ?_
            intro v1 W o1 g1 l1
            change ∃ C' : World → Prop, _ ∧ _ ∧ _ ∧ anyU _ _ _ _ _ _ 6 _ _ _
            have z14 : b14 < w9.heap.size := Nat.lt_of_lt_of_le F14.out.lt h.size
            have N14 : Hid (v1.ownBlock ≠ some b14) := Lib.hid (fun e => by rcases l1 _ e with h1 | h1; exact NE14.out h1; omega)
            replace F14 := Lib.hid (show Dg W b14 _ from (F14.out.bel h).grown g1 NE14.out)
            have z8 : b8 < w9.heap.size := Nat.lt_of_lt_of_le F8.out.lt h.size
            have N8 : Hid (v1.ownBlock ≠ some b8) := Lib.hid (fun e => by rcases l1 _ e with h1 | h1; exact NE8.out h1; omega)
            replace F8 := Lib.hid (show Dg W b8 _ from (F8.out.bel h).grown g1 NE8.out)
            replace EW := Lib.hid (show Ext W0 W from grown_below (Ext.trans EW.out h) g1 z0 (fun g hg => (ownR_lt O.out g hg).1))
            obtain ⟨q2, qc2, rfl, hs2, _⟩ := ownR_src o1
            have e1 : 0 + c + 1 = c + 1 := by omega
            rw [e1] at hs2 ⊢
            have S2 := Lib.hid (show SrcD W q2 (c + 1) qc2 (ps ++ dd) from hs2)
            clear e1
            clear hs2 o1 g1 l1 h z0 O NE14 N14 z14 NE8 N8 z8
            (try simp only [Act.put])
            refine anchor EW.out ?_
            refine anyU_one 10 5 _ rfl rfl (by kernel_rfl) ?_
            intro w9 h
            (try simp only [Act.put])
            go_wp2_with fail
            refine (climbTop_any A n q2 (c + 1) qc2 (ps ++ dd) dd zs 1 w9 (.inr ⟨.inr (.inr (.inr (.inr ⟨A, n, c, rfl, rfl, hAn, by omega, HS.out, by omega⟩))), HZS.out.symm, rfl⟩) (Lib.hid (S2.out.below h)) (Lib.hid (rng_append HP.out HDR.out)) HDL HDR (Lib.hid (hk.out.below (B0.out.trans ((Ext.trans EW.out h).mono B0.out.size))))).mono ?_
            rintro e W ⟨rfl, hb9⟩
            replace EW := Lib.hid (show Ext W0 W from Ext.trans (Ext.trans EW.out h) hb9)
            replace F14 := Lib.hid (show Dg W b14 zs from (F14.out.bel h).bel hb9)
            clear h hb9 S2
            go_wp2_with fail
            change ∃ C' : World → Prop, _ ∧ _ ∧ _ ∧ anyU _ _ _ _ _ _ 5 _ _ _
            refine anchor EW.out ?_
            refine anyU_takeD (i := 11) (v := .tuple #[.agg (bv zs).toArray, .int .i64 1]) 41 rfl rfl (by kernel_rfl) (by kernel_rfl) (by kernel_rfl) (fun _ _ _ h => h) (by kernel_rfl) (Ext.stable _) (fun _ hu => Ext.trans EW.out hu) (yieldsU_val rfl (fun u hu => by rfl)) ?_
            refine anyU_takeD (i := 12) (v := .agg (bv zs).toArray) 53 rfl rfl (by kernel_rfl) (by kernel_rfl) (by kernel_rfl) (fun _ _ _ h => h) (by kernel_rfl) (Ext.stable _) (fun _ hu => Ext.trans EW.out hu) (yieldsU_val rfl (fun u hu => by rfl)) ?_
            refine anyU_takeD (i := 13) (v := .int .i64 1) 54 rfl rfl (by kernel_rfl) (by kernel_rfl) (by kernel_rfl) (fun _ _ _ h => h) (by kernel_rfl) (Ext.stable _) (fun _ hu => Ext.trans EW.out hu) (yieldsU_val rfl (fun u hu => by rfl)) ?_
            refine anyU_one 15 1 _ rfl rfl (by kernel_rfl) ?_
            intro w9 h
            refine list_storeD rfl (.tmp 11) (.tmp 53) rfl b14 rfl zs rfl HZL.out _ (F14.out.bel h) ?_
            intro wf df kf
            change ∃ C' : World → Prop, _ ∧ _ ∧ _ ∧ anyU _ _ _ _ _ _ 1 _ _ _
            replace EW := Lib.hid (show Ext W0 wf from Below.trans (Ext.trans EW.out h) (kf.below lo14))
            clear df kf h
            refine anchor EW.out ?_
            (try simp only [Act.put])
            refine anyU_tail 16 [] rfl rfl (by decide) (by kernel_rfl) ?_
            intro w9 h
            simp only [Act.put, List.filterMap_cons, List.filterMap_nil, List.getElem?_cons_succ, List.getElem?_cons_zero]
            go_wp2_with fail
            go_meet
            exact ⟨rfl, Lib.hid (Ext.trans E8.out (Ext.trans EW.out h))⟩
        case r14_4x =>
          intro w9 h
          go_wp2_with fail
          change ∃ C' : World → Prop, _ ∧ _ ∧ _ ∧ anyU _ _ _ _ _ _ 9 _ _ _
          generalize hA : World.alloc _ _ = W
          have F14 := Lib.hid (show Dg W w9.heap.size zs by rw [← hA, ← HZS.out]; exact Dg.new w9)
          have z0 : W0.heap.size ≤ w9.heap.size := (Ext.trans EW.out h).size
          have NE14 : Hid (Value.ownBlock (.slice (some ⟨e4, 0, none⟩) 0 0) ≠ some w9.heap.size) := Lib.hid (fun e => by have h1 := (ownR_lt O.out _ e).2; have h2 := h.size; omega)
          replace EW := Lib.hid (show Ext W0 W by rw [← hA]; exact Ext.alloc (Ext.trans EW.out h) _)
          replace O := Lib.hid (show OwnR W W0.heap.size (.slice (some ⟨e4, 0, none⟩) 0 0) 0 [] by rw [← hA]; exact ownR_below (ownR_below O.out h) (bel_alloc1 _ _))
          clear hA h
          obtain ⟨b14, hb_⟩ : ∃ b, w9.heap.size = b := ⟨_, rfl⟩
          rw [hb_] at F14 z0 NE14 ⊢
          clear hb_
          have lo14 : W0.heap.size ≤ b14 := z0
          clear z0
          refine anchor EW.out ?_
          refine anyU_two 6 8 8 _ _ rfl rfl rfl rfl (by kernel_rfl) ?r6_4_14x ?r8_4_14x
          case r6_4_14x =>
            intro w9 h
            have z0 : W0.heap.size ≤ w9.heap.size := (Ext.trans EW.out h).size
            refine list_appXS rfl rfl (.tmp 46) (.tmp 47) rfl W0.heap.size (.slice (some ⟨e4, 0, none⟩) 0 0) 0 [] rfl (ownR_below O.out h) q c qc ps rfl (S0.out.below (Ext.trans EW.out h)) (by omega) ?hq z0 ?_
            case hq => exact srcD_some (S0.out.below (Ext.trans EW.out h)) HSP.out
            intro v1 W o1 g1 l1
            change ∃ C' : World → Prop, _ ∧ _ ∧ _ ∧ anyU _ _ _ _ _ _ 8 _ _ _
            have z14 : b14 < w9.heap.size := Nat.lt_of_lt_of_le F14.out.lt h.size
            have N14 : Hid (v1.ownBlock ≠ some b14) := Lib.hid (fun e => by rcases l1 _ e with h1 | h1; exact NE14.out h1; omega)
            replace F14 := Lib.hid (show Dg W b14 _ from (F14.out.bel h).grown g1 NE14.out)
            replace EW := Lib.hid (show Ext W0 W from grown_below (Ext.trans EW.out h) g1 z0 (fun g hg => (ownR_lt O.out g hg).1))
            replace O := Lib.hid o1
            replace NE14 := N14
            clear z14
            clear o1 g1 l1 h z0
            (try simp only [Act.put])
            refine anchor EW.out ?_
            refine anyU_one 8 7 _ rfl rfl (by kernel_rfl) ?_
            intro w9 h
            refine list_build1 (by rfl) (.tmp 49) rfl (bv dd) rfl (by rw [bv_len]; exact HDL.out) ?_
            change ∃ C' : World → Prop, _ ∧ _ ∧ _ ∧ anyU _ _ _ _ _ _ 7 _ _ _
            generalize hA : World.alloc _ _ = W
            have F8 := Lib.hid (show Dg W w9.heap.size dd by rw [← hA]; exact Dg.box w9 HDL.out)
            have z0 : W0.heap.size ≤ w9.heap.size := (Ext.trans EW.out h).size
            have NE8 : Hid (Value.ownBlock v1 ≠ some w9.heap.size) := Lib.hid (fun e => by have h1 := (ownR_lt O.out _ e).2; have h2 := h.size; omega)
            replace EW := Lib.hid (show Ext W0 W by rw [← hA]; exact Ext.alloc (Ext.trans EW.out h) _)
            replace F14 := Lib.hid (show Dg W b14 zs by rw [← hA]; exact (F14.out.bel h).alloc _)
            replace O := Lib.hid (show OwnR W W0.heap.size v1 (0 + c) ([] ++ ps) by rw [← hA]; exact ownR_below (ownR_below O.out h) (bel_alloc1 _ _))
            clear hA h
            obtain ⟨b8, hb_⟩ : ∃ b, w9.heap.size = b := ⟨_, rfl⟩
            rw [hb_] at F8 z0 NE8 ⊢
            clear hb_
            have lo8 : W0.heap.size ≤ b8 := z0
            clear z0
            refine anchor EW.out ?_
            refine anyU_one 9 6 _ rfl rfl (by kernel_rfl) ?_
            intro w9 h
            have z0 : W0.heap.size ≤ w9.heap.size := (Ext.trans EW.out h).size
            refine list_appX rfl (.tmp 48) (.tmp 50) rfl W0.heap.size v1 (0 + c) ([] ++ ps) rfl (ownR_below O.out h) b8 0 1 1 dd rfl (by rw [HDL.out]) (F8.out.bel h).bytes (by omega) z0 ?_
            intro v1 W o1 g1 l1
            change ∃ C' : World → Prop, _ ∧ _ ∧ _ ∧ anyU _ _ _ _ _ _ 6 _ _ _
            have z14 : b14 < w9.heap.size := Nat.lt_of_lt_of_le F14.out.lt h.size
            have N14 : Hid (v1.ownBlock ≠ some b14) := Lib.hid (fun e => by rcases l1 _ e with h1 | h1; exact NE14.out h1; omega)
            replace F14 := Lib.hid (show Dg W b14 _ from (F14.out.bel h).grown g1 NE14.out)
            have z8 : b8 < w9.heap.size := Nat.lt_of_lt_of_le F8.out.lt h.size
            have N8 : Hid (v1.ownBlock ≠ some b8) := Lib.hid (fun e => by rcases l1 _ e with h1 | h1; exact NE8.out h1; omega)
            replace F8 := Lib.hid (show Dg W b8 _ from (F8.out.bel h).grown g1 NE8.out)
            replace EW := Lib.hid (show Ext W0 W from grown_below (Ext.trans EW.out h) g1 z0 (fun g hg => (ownR_lt O.out g hg).1))
            obtain ⟨q2, qc2, rfl, hs2, _⟩ := ownR_src o1
            have e1 : 0 + c + 1 = c + 1 := by omega
            rw [e1] at hs2 ⊢
            have S2 := Lib.hid (show SrcD W q2 (c + 1) qc2 (ps ++ dd) from hs2)
            clear e1
            clear hs2 o1 g1 l1 h z0 O NE14 N14 z14 NE8 N8 z8
            (try simp only [Act.put])
            refine anchor EW.out ?_
            refine anyU_one 10 5 _ rfl rfl (by kernel_rfl) ?_
            intro w9 h
            (try simp only [Act.put])
            go_wp2_with fail
            refine (climbTop_any A n q2 (c + 1) qc2 (ps ++ dd) dd zs 1 w9 (.inr ⟨.inr (.inr (.inr (.inr ⟨A, n, c, rfl, rfl, hAn, by omega, HS.out, by omega⟩))), HZS.out.symm, rfl⟩) (Lib.hid (S2.out.below h)) (Lib.hid (rng_append HP.out HDR.out)) HDL HDR (Lib.hid (hk.out.below (B0.out.trans ((Ext.trans EW.out h).mono B0.out.size))))).mono ?_
            rintro e W ⟨rfl, hb9⟩
            replace EW := Lib.hid (show Ext W0 W from Ext.trans (Ext.trans EW.out h) hb9)
            replace F14 := Lib.hid (show Dg W b14 zs from (F14.out.bel h).bel hb9)
            clear h hb9 S2
            go_wp2_with fail
            change ∃ C' : World → Prop, _ ∧ _ ∧ _ ∧ anyU _ _ _ _ _ _ 5 _ _ _
            refine anchor EW.out ?_
            refine anyU_takeD (i := 11) (v := .tuple #[.agg (bv zs).toArray, .int .i64 1]) 41 rfl rfl (by kernel_rfl) (by kernel_rfl) (by kernel_rfl) (fun _ _ _ h => h) (by kernel_rfl) (Ext.stable _) (fun _ hu => Ext.trans EW.out hu) (yieldsU_val rfl (fun u hu => by rfl)) ?_
            refine anyU_takeD (i := 12) (v := .agg (bv zs).toArray) 53 rfl rfl (by kernel_rfl) (by kernel_rfl) (by kernel_rfl) (fun _ _ _ h => h) (by kernel_rfl) (Ext.stable _) (fun _ hu => Ext.trans EW.out hu) (yieldsU_val rfl (fun u hu => by rfl)) ?_
            refine anyU_takeD (i := 13) (v := .int .i64 1) 54 rfl rfl (by kernel_rfl) (by kernel_rfl) (by kernel_rfl) (fun _ _ _ h => h) (by kernel_rfl) (Ext.stable _) (fun _ hu => Ext.trans EW.out hu) (yieldsU_val rfl (fun u hu => by rfl)) ?_
            refine anyU_one 15 1 _ rfl rfl (by kernel_rfl) ?_
            intro w9 h
            refine list_storeD rfl (.tmp 11) (.tmp 53) rfl b14 rfl zs rfl HZL.out _ (F14.out.bel h) ?_
            intro wf df kf
            change ∃ C' : World → Prop, _ ∧ _ ∧ _ ∧ anyU _ _ _ _ _ _ 1 _ _ _
            replace EW := Lib.hid (show Ext W0 wf from Below.trans (Ext.trans EW.out h) (kf.below lo14))
            clear df kf h
            refine anchor EW.out ?_
            (try simp only [Act.put])
            refine anyU_tail 16 [] rfl rfl (by decide) (by kernel_rfl) ?_
            intro w9 h
            simp only [Act.put, List.filterMap_cons, List.filterMap_nil, List.getElem?_cons_succ, List.getElem?_cons_zero]
            go_wp2_with fail
            go_meet
            exact ⟨rfl, Lib.hid (Ext.trans E8.out (Ext.trans EW.out h))⟩
          case r8_4_14x =>
            intro w9 h
            refine list_build1 (by rfl) (.tmp 49) rfl (bv dd) rfl (by rw [bv_len]; exact HDL.out) ?_
            change ∃ C' : World → Prop, _ ∧ _ ∧ _ ∧ anyU _ _ _ _ _ _ 8 _ _ _
            generalize hA : World.alloc _ _ = W
            have F8 := Lib.hid (show Dg W w9.heap.size dd by rw [← hA]; exact Dg.box w9 HDL.out)
            have z0 : W0.heap.size ≤ w9.heap.size := (Ext.trans EW.out h).size
            have NE8 : Hid (Value.ownBlock (.slice (some ⟨e4, 0, none⟩) 0 0) ≠ some w9.heap.size) := Lib.hid (fun e => by have h1 := (ownR_lt O.out _ e).2; have h2 := h.size; omega)
            replace EW := Lib.hid (show Ext W0 W by rw [← hA]; exact Ext.alloc (Ext.trans EW.out h) _)
            replace F14 := Lib.hid (show Dg W b14 zs by rw [← hA]; exact (F14.out.bel h).alloc _)
            replace O := Lib.hid (show OwnR W W0.heap.size (.slice (some ⟨e4, 0, none⟩) 0 0) 0 [] by rw [← hA]; exact ownR_below (ownR_below O.out h) (bel_alloc1 _ _))
            clear hA h
            obtain ⟨b8, hb_⟩ : ∃ b, w9.heap.size = b := ⟨_, rfl⟩
            rw [hb_] at F8 z0 NE8 ⊢
            clear hb_
            have lo8 : W0.heap.size ≤ b8 := z0
            clear z0
            refine anchor EW.out ?_
            refine anyU_one 6 7 _ rfl rfl (by kernel_rfl) ?_
            intro w9 h
            have z0 : W0.heap.size ≤ w9.heap.size := (Ext.trans EW.out h).size
            refine list_appXS rfl rfl (.tmp 46) (.tmp 47) rfl W0.heap.size (.slice (some ⟨e4, 0, none⟩) 0 0) 0 [] rfl (ownR_below O.out h) q c qc ps rfl (S0.out.below (Ext.trans EW.out h)) (by omega) ?hq z0 ?_
            case hq => exact srcD_some (S0.out.below (Ext.trans EW.out h)) HSP.out
            intro v1 W o1 g1 l1
            change ∃ C' : World → Prop, _ ∧ _ ∧ _ ∧ anyU _ _ _ _ _ _ 7 _ _ _
            have z14 : b14 < w9.heap.size := Nat.lt_of_lt_of_le F14.out.lt h.size
            have N14 : Hid (v1.ownBlock ≠ some b14) := Lib.hid (fun e => by rcases l1 _ e with h1 | h1; exact NE14.out h1; omega)
            replace F14 := Lib.hid (show Dg W b14 _ from (F14.out.bel h).grown g1 NE14.out)
            have z8 : b8 < w9.heap.size := Nat.lt_of_lt_of_le F8.out.lt h.size
            have N8 : Hid (v1.ownBlock ≠ some b8) := Lib.hid (fun e => by rcases l1 _ e with h1 | h1; exact NE8.out h1; omega)
            replace F8 := Lib.hid (show Dg W b8 _ from (F8.out.bel h).grown g1 NE8.out)
            replace EW := Lib.hid (show Ext W0 W from grown_below (Ext.trans EW.out h) g1 z0 (fun g hg => (ownR_lt O.out g hg).1))
            replace O := Lib.hid o1
            replace NE14 := N14
            clear z14
            replace NE8 := N8
            clear z8
            clear o1 g1 l1 h z0
            (try simp only [Act.put])
            refine anchor EW.out ?_
            refine anyU_one 9 6 _ rfl rfl (by kernel_rfl) ?_
            intro w9 h
            have z0 : W0.heap.size ≤ w9.heap.size := (Ext.trans EW.out h).size
            refine list_appX rfl (.tmp 48) (.tmp 50) rfl W0.heap.size v1 (0 + c) ([] ++ ps) rfl (ownR_below O.out h) b8 0 1 1 dd rfl (by rw [HDL.out]) (F8.out.bel h).bytes (by omega) z0 ?_
            intro v1 W o1 g1 l1
            change ∃ C' : World → Prop, _ ∧ _ ∧ _ ∧ anyU _ _ _ _ _ _ 6 _ _ _
            have z14 : b14 < w9.heap.size := Nat.lt_of_lt_of_le F14.out.lt h.size
            have N14 : Hid (v1.ownBlock ≠ some b14) := Lib.hid (fun e => by rcases l1 _ e with h1 | h1; exact NE14.out h1; omega)
            replace F14 := Lib.hid (show Dg W b14 _ from (F14.out.bel h).grown g1 NE14.out)
            have z8 : b8 < w9.heap.size := Nat.lt_of_lt_of_le F8.out.lt h.size
            have N8 : Hid (v1.ownBlock ≠ some b8) := Lib.hid (fun e => by rcases l1 _ e with h1 | h1; exact NE8.out h1; omega)
            replace F8 := Lib.hid (show Dg W b8 _ from (F8.out.bel h).grown g1 NE8.out)
            replace EW := Lib.hid (show Ext W0 W from grown_below (Ext.trans EW.out h) g1 z0 (fun g hg => (ownR_lt O.out g hg).1))
            obtain ⟨q2, qc2, rfl, hs2, _⟩ := ownR_src o1
            have e1 : 0 + c + 1 = c + 1 := by omega
            rw [e1] at hs2 ⊢
            have S2 := Lib.hid (show SrcD W q2 (c + 1) qc2 (ps ++ dd) from hs2)
            clear e1
            clear hs2 o1 g1 l1 h z0 O NE14 N14 z14 NE8 N8 z8
            (try simp only [Act.put])
            refine anchor EW.out ?_
            refine anyU_one 10 5 _ rfl rfl (by kernel_rfl) ?_
            intro w9 h
            (try simp only [Act.put])
            go_wp2_with fail
            refine (climbTop_any A n q2 (c + 1) qc2 (ps ++ dd) dd zs 1 w9 (.inr ⟨.inr (.inr (.inr (.inr ⟨A, n, c, rfl, rfl, hAn, by omega, HS.out, by omega⟩))), HZS.out.symm, rfl⟩) (Lib.hid (S2.out.below h)) (Lib.hid (rng_append HP.out HDR.out)) HDL HDR (Lib.hid (hk.out.below (B0.out.trans ((Ext.trans EW.out h).mono B0.out.size))))).mono ?_
            rintro e W ⟨rfl, hb9⟩
            replace EW := Lib.hid (show Ext W0 W from Ext.trans (Ext.trans EW.out h) hb9)
            replace F14 := Lib.hid (show Dg W b14 zs from (F14.out.bel h).bel hb9)
            clear h hb9 S2
            go_wp2_with fail
            change ∃ C' : World → Prop, _ ∧ _ ∧ _ ∧ anyU _ _ _ _ _ _ 5 _ _ _
            refine anchor EW.out ?_
            refine anyU_takeD (i := 11) (v := .tuple #[.agg (bv zs).toArray, .int .i64 1]) 41 rfl rfl (by kernel_rfl) (by kernel_rfl) (by kernel_rfl) (fun _ _ _ h => h) (by kernel_rfl) (Ext.stable _) (fun _ hu => Ext.trans EW.out hu) (yieldsU_val rfl (fun u hu => by rfl)) ?_
            refine anyU_takeD (i := 12) (v := .agg (bv zs).toArray) 53 rfl rfl (by kernel_rfl) (by kernel_rfl) (by kernel_rfl) (fun _ _ _ h => h) (by kernel_rfl) (Ext.stable _) (fun _ hu => Ext.trans EW.out hu) (yieldsU_val rfl (fun u hu => by rfl)) ?_
            refine anyU_takeD (i := 13) (v := .int .i64 1) 54 rfl rfl (by kernel_rfl) (by kernel_rfl) (by kernel_rfl) (fun _ _ _ h => h) (by kernel_rfl) (Ext.stable _) (fun _ hu => Ext.trans EW.out hu) (yieldsU_val rfl (fun u hu => by rfl)) ?_
            refine anyU_one 15 1 _ rfl rfl (by kernel_rfl) ?_
            intro w9 h
            refine list_storeD rfl (.tmp 11) (.tmp 53) rfl b14 rfl zs rfl HZL.out _ (F14.out.bel h) ?_
            intro wf df kf
            change ∃ C' : World → Prop, _ ∧ _ ∧ _ ∧ anyU _ _ _ _ _ _ 1 _ _ _
            replace EW := Lib.hid (show Ext W0 wf from Below.trans (Ext.trans EW.out h) (kf.below lo14))
            clear df kf h
            refine anchor EW.out ?_
            (try simp only [Act.put])
            refine anyU_tail 16 [] rfl rfl (by decide) (by kernel_rfl) ?_
            intro w9 h
            simp only [Act.put, List.filterMap_cons, List.filterMap_nil, List.getElem?_cons_succ, List.getElem?_cons_zero]
            go_wp2_with fail
            go_meet
            exact ⟨rfl, Lib.hid (Ext.trans E8.out (Ext.trans EW.out h))⟩
      case r8x =>
        intro w9 h
        refine list_build1 (by rfl) (.tmp 49) rfl (bv dd) rfl (by rw [bv_len]; exact HDL.out) ?_
        change ∃ C' : World → Prop, _ ∧ _ ∧ _ ∧ anyU _ _ _ _ _ _ 10 _ _ _
        generalize hA : World.alloc _ _ = W
        have F8 := Lib.hid (show Dg W w9.heap.size dd by rw [← hA]; exact Dg.box w9 HDL.out)
        have z0 : W0.heap.size ≤ w9.heap.size := (Ext.trans EW.out h).size
        replace EW := Lib.hid (show Ext W0 W by rw [← hA]; exact Ext.alloc (Ext.trans EW.out h) _)
        clear hA h
        obtain ⟨b8, hb_⟩ : ∃ b, w9.heap.size = b := ⟨_, rfl⟩
        rw [hb_] at F8 z0  ⊢
        clear hb_
        have lo8 : W0.heap.size ≤ b8 := z0
        clear z0
        refine anchor EW.out ?_
        refine anyU_two 4 14 9 _ _ rfl rfl rfl rfl (by kernel_rfl) ?r4_8x ?r14_8x
        case r4_8x =>
          intro w9 h
          go_wp2_with fail
          change ∃ C' : World → Prop, _ ∧ _ ∧ _ ∧ anyU _ _ _ _ _ _ 9 _ _ _
          generalize hA : World.alloc _ _ = W
          have z0 : W0.heap.size ≤ w9.heap.size := (Ext.trans EW.out h).size
          have O := Lib.hid (show OwnR W W0.heap.size (.slice (some ⟨w9.heap.size, 0, none⟩) 0 0) 0 [] by rw [← hA]; exact ownR_emp w9 _ z0)
          have z8 : b8 < w9.heap.size := Nat.lt_of_lt_of_le F8.out.lt h.size
          replace EW := Lib.hid (show Ext W0 W by rw [← hA]; exact Ext.alloc (Ext.trans EW.out h) _)
          replace F8 := Lib.hid (show Dg W b8 dd by rw [← hA]; exact (F8.out.bel h).alloc _)
          clear hA h z0
          obtain ⟨e4, he4⟩ : ∃ b, w9.heap.size = b := ⟨_, rfl⟩
          rw [he4] at O z8 ⊢
          clear he4
          have NE8 : Hid (Value.ownBlock (.slice (some ⟨e4, 0, none⟩) 0 0) ≠ some b8) := Lib.hid (by simp [Value.ownBlock]; omega)
          refine anchor EW.out ?_
          refine anyU_two 6 14 8 _ _ rfl rfl rfl rfl (by kernel_rfl) ?r6_4_8x ?r14_4_8x
          case r6_4_8x =>
            intro w9 h
            have z0 : W0.heap.size ≤ w9.heap.size := (Ext.trans EW.out h).size
            refine list_appXS rfl rfl (.tmp 46) (.tmp 47) rfl W0.heap.size (.slice (some ⟨e4, 0, none⟩) 0 0) 0 [] rfl (ownR_below O.out h) q c qc ps rfl (S0.out.below (Ext.trans EW.out h)) (by omega) ?hq z0 ?_
            case hq => exact srcD_some (S0.out.below (Ext.trans EW.out h)) HSP.out
            intro v1 W o1 g1 l1
            change ∃ C' : World → Prop, _ ∧ _ ∧ _ ∧ anyU _ _ _ _ _ _ 8 _ _ _
            have z8 : b8 < w9.heap.size := Nat.lt_of_lt_of_le F8.out.lt h.size
            have N8 : Hid (v1.ownBlock ≠ some b8) := Lib.hid (fun e => by rcases l1 _ e with h1 | h1; exact NE8.out h1; omega)
            replace F8 := Lib.hid (show Dg W b8 _ from (F8.out.bel h).grown g1 NE8.out)
            replace EW := Lib.hid (show Ext W0 W from grown_below (Ext.trans EW.out h) g1 z0 (fun g hg => (ownR_lt O.out g hg).1))
            replace O := Lib.hid o1
            replace NE8 := N8
            clear z8
            clear o1 g1 l1 h z0
            (try simp only [Act.put])
            refine anchor EW.out ?_
            refine anyU_two 9 14 7 _ _ rfl rfl rfl rfl (by kernel_rfl) ?r9_4_6_8x ?r14_4_6_8x
            case r9_4_6_8x =>
              intro w9 h
              have z0 : W0.heap.size ≤ w9.heap.size := (Ext.trans EW.out h).size
              refine list_appX rfl (.tmp 48) (.tmp 50) rfl W0.heap.size v1 (0 + c) ([] ++ ps) rfl (ownR_below O.out h) b8 0 1 1 dd rfl (by rw [HDL.out]) (F8.out.bel h).bytes (by omega) z0 ?_
              intro v1 W o1 g1 l1
              change ∃ C' : World → Prop, _ ∧ _ ∧ _ ∧ anyU _ _ _ _ _ _ 7 _ _ _
              have z8 : b8 < w9.heap.size := Nat.lt_of_lt_of_le F8.out.lt h.size
              have N8 : Hid (v1.ownBlock ≠ some b8) := Lib.hid (fun e => by rcases l1 _ e with h1 | h1; exact NE8.out h1; omega)
              replace F8 := Lib.hid (show Dg W b8 _ from (F8.out.bel h).grown g1 NE8.out)
              replace EW := Lib.hid (show Ext W0 W from grown_below (Ext.trans EW.out h) g1 z0 (fun g hg => (ownR_lt O.out g hg).1))
              obtain ⟨q2, qc2, rfl, hs2, _⟩ := ownR_src o1
              have e1 : 0 + c + 1 = c + 1 := by omega
              rw [e1] at hs2 ⊢
              have S2 := Lib.hid (show SrcD W q2 (c + 1) qc2 (ps ++ dd) from hs2)
              clear e1
              clear hs2 o1 g1 l1 h z0 O NE8 N8 z8
              (try simp only [Act.put])
              refine anchor EW.out ?_
              refine anyU_two 10 14 6 _ _ rfl rfl rfl rfl (by kernel_rfl) ?r10_4_6_8_9x ?r14_4_6_8_9x
              case r10_4_6_8_9x =>
                intro w9 h
                (try simp only [Act.put])
                go_wp2_with fail
                refine (climbTop_any A n q2 (c + 1) qc2 (ps ++ dd) dd zs 1 w9 (.inr ⟨.inr (.inr (.inr (.inr ⟨A, n, c, rfl, rfl, hAn, by omega, HS.out, by omega⟩))), HZS.out.symm, rfl⟩) (Lib.hid (S2.out.below h)) (Lib.hid (rng_append HP.out HDR.out)) HDL HDR (Lib.hid (hk.out.below (B0.out.trans ((Ext.trans EW.out h).mono B0.out.size))))).mono ?_
                rintro e W ⟨rfl, hb9⟩
                replace EW := Lib.hid (show Ext W0 W from Ext.trans (Ext.trans EW.out h) hb9)
                clear h hb9 S2
                go_wp2_with fail
                change ∃ C' : World → Prop, _ ∧ _ ∧ _ ∧ anyU _ _ _ _ _ _ 6 _ _ _
                refine anchor EW.out ?_
                refine anyU_takeD (i := 11) (v := .tuple #[.agg (bv zs).toArray, .int .i64 1]) 41 rfl rfl (by kernel_rfl) (by kernel_rfl) (by kernel_rfl) (fun _ _ _ h => h) (by kernel_rfl) (Ext.stable _) (fun _ hu => Ext.trans EW.out hu) (yieldsU_val rfl (fun u hu => by rfl)) ?_
                refine anyU_takeD (i := 12) (v := .agg (bv zs).toArray) 53 rfl rfl (by kernel_rfl) (by kernel_rfl) (by kernel_rfl) (fun _ _ _ h => h) (by kernel_rfl) (Ext.stable _) (fun _ hu => Ext.trans EW.out hu) (yieldsU_val rfl (fun u hu => by rfl)) ?_
                refine anyU_takeD (i := 13) (v := .int .i64 1) 54 rfl rfl (by kernel_rfl) (by kernel_rfl) (by kernel_rfl) (fun _ _ _ h => h) (by kernel_rfl) (Ext.stable _) (fun _ hu => Ext.trans EW.out hu) (yieldsU_val rfl (fun u hu => by rfl)) ?_
                refine anyU_one 14 2 _ rfl rfl (by kernel_rfl) ?_
                intro w9 h
                go_wp2_with fail
                change ∃ C' : World → Prop, _ ∧ _ ∧ _ ∧ anyU _ _ _ _ _ _ 2 _ _ _
                generalize hA : World.alloc _ _ = W
                have F14 := Lib.hid (show Dg W w9.heap.size zs by rw [← hA, ← HZS.out]; exact Dg.new w9)
                have z0 : W0.heap.size ≤ w9.heap.size := (Ext.trans EW.out h).size
                replace EW := Lib.hid (show Ext W0 W by rw [← hA]; exact Ext.alloc (Ext.trans EW.out h) _)
                clear hA h
                obtain ⟨b14, hb_⟩ : ∃ b, w9.heap.size = b := ⟨_, rfl⟩
                rw [hb_] at F14 z0  ⊢
                clear hb_
                have lo14 : W0.heap.size ≤ b14 := z0
                clear z0
                refine anchor EW.out ?_
                refine anyU_one 15 1 _ rfl rfl (by kernel_rfl) ?_
                intro w9 h
                refine list_storeD rfl (.tmp 11) (.tmp 53) rfl b14 rfl zs rfl HZL.out _ (F14.out.bel h) ?_
                intro wf df kf
                change ∃ C' : World → Prop, _ ∧ _ ∧ _ ∧ anyU _ _ _ _ _ _ 1 _ _ _
                replace EW := Lib.hid (show Ext W0 wf from Below.trans (Ext.trans EW.out h) (kf.below lo14))
                clear df kf h
                refine anchor EW.out ?_
                (try simp only [Act.put])
                refine anyU_tail 16 [] rfl rfl (by decide) (by kernel_rfl) ?_
                intro w9 h
                simp only [Act.put, List.filterMap_cons, List.filterMap_nil, List.getElem?_cons_succ, List.getElem?_cons_zero]
                go_wp2_with fail
                go_meet
                exact ⟨rfl, Lib.hid (Ext.trans E8.out (Ext.trans EW.out h))⟩
              case r14_4_6_8_9x =>
                intro w9 h
                go_wp2_with fail
                change ∃ C' : World → Prop, _ ∧ _ ∧ _ ∧ anyU _ _ _ _ _ _ 6 _ _ _
                generalize hA : World.alloc _ _ = W
                have F14 := Lib.hid (show Dg W w9.heap.size zs by rw [← hA, ← HZS.out]; exact Dg.new w9)
                have z0 : W0.heap.size ≤ w9.heap.size := (Ext.trans EW.out h).size
                replace EW := Lib.hid (show Ext W0 W by rw [← hA]; exact Ext.alloc (Ext.trans EW.out h) _)
                replace F8 := Lib.hid (show Dg W b8 dd by rw [← hA]; exact (F8.out.bel h).alloc _)
                replace S2 := Lib.hid (show SrcD W q2 (c + 1) qc2 (ps ++ dd) by rw [← hA]; exact (S2.out.below h).below (bel_alloc1 _ _))
                clear hA h
                obtain ⟨b14, hb_⟩ : ∃ b, w9.heap.size = b := ⟨_, rfl⟩
                rw [hb_] at F14 z0  ⊢
                clear hb_
                have lo14 : W0.heap.size ≤ b14 := z0
                clear z0
                refine anchor EW.out ?_
                refine anyU_one 10 5 _ rfl rfl (by kernel_rfl) ?_
                intro w9 h
                (try simp only [Act.put])
                go_wp2_with fail
                refine (climbTop_any A n q2 (c + 1) qc2 (ps ++ dd) dd zs 1 w9 (.inr ⟨.inr (.inr (.inr (.inr ⟨A, n, c, rfl, rfl, hAn, by omega, HS.out, by omega⟩))), HZS.out.symm, rfl⟩) (Lib.hid (S2.out.below h)) (Lib.hid (rng_append HP.out HDR.out)) HDL HDR (Lib.hid (hk.out.below (B0.out.trans ((Ext.trans EW.out h).mono B0.out.size))))).mono ?_
                rintro e W ⟨rfl, hb9⟩
                replace EW := Lib.hid (show Ext W0 W from Ext.trans (Ext.trans EW.out h) hb9)
                replace F14 := Lib.hid (show Dg W b14 zs from (F14.out.bel h).bel hb9)
                clear h hb9 S2
                go_wp2_with fail
                change ∃ C' : World → Prop, _ ∧ _ ∧ _ ∧ anyU _ _ _ _ _ _ 5 _ _ _
                refine anchor EW.out ?_
                refine anyU_takeD (i := 11) (v := .tuple #[.agg (bv zs).toArray, .int .i64 1]) 41 rfl rfl (by kernel_rfl) (by kernel_rfl) (by kernel_rfl) (fun _ _ _ h => h) (by kernel_rfl) (Ext.stable _) (fun _ hu => Ext.trans EW.out hu) (yieldsU_val rfl (fun u hu => by rfl)) ?_
                refine anyU_takeD (i := 12) (v := .agg (bv zs).toArray) 53 rfl rfl (by kernel_rfl) (by kernel_rfl) (by kernel_rfl) (fun _ _ _ h => h) (by kernel_rfl) (Ext.stable _) (fun _ hu => Ext.trans EW.out hu) (yieldsU_val rfl (fun u hu => by rfl)) ?_
                refine anyU_takeD (i := 13) (v := .int .i64 1) 54 rfl rfl (by kernel_rfl) (by kernel_rfl) (by kernel_rfl) (fun _ _ _ h => h) (by kernel_rfl) (Ext.stable _) (fun _ hu => Ext.trans EW.out hu) (yieldsU_val rfl (fun u hu => by rfl)) ?_
                refine anyU_one 15 1 _ rfl rfl (by kernel_rfl) ?_
                intro w9 h
                refine list_storeD rfl (.tmp 11) (.tmp 53) rfl b14 rfl zs rfl HZL.out _ (F14.out.bel h) ?_
                intro wf df kf
                change ∃ C' : World → Prop, _ ∧ _ ∧ _ ∧ anyU _ _ _ _ _ _ 1 _ _ _
                replace EW := Lib.hid (show Ext W0 wf from Below.trans (Ext.trans EW.out h) (kf.below lo14))
                clear df kf h
                refine anchor EW.out ?_
                (try simp only [Act.put])
                refine anyU_tail 16 [] rfl rfl (by decide) (by kernel_rfl) ?_
                intro w9 h
                simp only [Act.put, List.filterMap_cons, List.filterMap_nil, List.getElem?_cons_succ, List.getElem?_cons_zero]
                go_wp2_with fail
                go_meet
                exact ⟨rfl, Lib.hid (Ext.trans E8.out (Ext.trans EW.out h))⟩
            case r14_4_6_8x =>
              intro w9 h
              go_wp2_with fail
              change ∃ C' : World → Prop, _ ∧ _ ∧ _ ∧ anyU _ _ _ _ _ _ 7 _ _ _
              generalize hA : World.alloc _ _ = W
              have F14 := Lib.hid (show Dg W w9.heap.size zs by rw [← hA, ← HZS.out]; exact Dg.new w9)
              have z0 : W0.heap.size ≤ w9.heap.size := (Ext.trans EW.out h).size
              have NE14 : Hid (Value.ownBlock v1 ≠ some w9.heap.size) := Lib.hid (fun e => by have h1 := (ownR_lt O.out _ e).2; have h2 := h.size; omega)
              replace EW := Lib.hid (show Ext W0 W by rw [← hA]; exact Ext.alloc (Ext.trans EW.out h) _)
              replace F8 := Lib.hid (show Dg W b8 dd by rw [← hA]; exact (F8.out.bel h).alloc _)
              replace O := Lib.hid (show OwnR W W0.heap.size v1 (0 + c) ([] ++ ps) by rw [← hA]; exact ownR_below (ownR_below O.out h) (bel_alloc1 _ _))
              clear hA h
              obtain ⟨b14, hb_⟩ : ∃ b, w9.heap.size = b := ⟨_, rfl⟩
              rw [hb_] at F14 z0 NE14 ⊢
              clear hb_
              have lo14 : W0.heap.size ≤ b14 := z0
              clear z0
              refine anchor EW.out ?_
              refine anyU_one 9 6 _ rfl rfl (by kernel_rfl) ?_
              intro w9 h
              have z0 : W0.heap.size ≤ w9.heap.size := (Ext.trans EW.out h).size
              refine list_appX rfl (.tmp 48) (.tmp 50) rfl W0.heap.size v1 (0 + c) ([] ++ ps) rfl (ownR_below O.out h) b8 0 1 1 dd rfl (by rw [HDL.out]) (F8.out.bel h).bytes (by omega) z0 ?_
              intro v1 W o1 g1 l1
              change ∃ C' : World → Prop, _ ∧ _ ∧ _ ∧ anyU _ _ _ _ _ _ 6 _ _ _
              have z14 : b14 < w9.heap.size := Nat.lt_of_lt_of_le F14.out.lt h.size
              have N14 : Hid (v1.ownBlock ≠ some b14) := Lib.hid (fun e => by rcases l1 _ e with h1 | h1; exact NE14.out h1; omega)
              replace F14 := Lib.hid (show Dg W b14 _ from (F14.out.bel h).grown g1 NE14.out)
              have z8 : b8 < w9.heap.size := Nat.lt_of_lt_of_le F8.out.lt h.size
              have N8 : Hid (v1.ownBlock ≠ some b8) := Lib.hid (fun e => by rcases l1 _ e with h1 | h1; exact NE8.out h1; omega)
              replace F8 := Lib.hid (show Dg W b8 _ from (F8.out.bel h).grown g1 NE8.out)
              replace EW := Lib.hid (show Ext W0 W from grown_below (Ext.trans EW.out h) g1 z0 (fun g hg => (ownR_lt O.out g hg).1))
              obtain ⟨q2, qc2, rfl, hs2, _⟩ := ownR_src o1
              have e1 : 0 + c + 1 = c + 1 := by omega
              rw [e1] at hs2 ⊢
              have S2 := Lib.hid (show SrcD W q2 (c + 1) qc2 (ps ++ dd) from hs2)
              clear e1
              clear hs2 o1 g1 l1 h z0 O NE14 N14 z14 NE8 N8 z8
              (try simp only [Act.put])
              refine anchor EW.out ?_
              refine anyU_one 10 5 _ rfl rfl (by kernel_rfl) ?_
              intro w9 h
              (try simp only [Act.put])
              go_wp2_with fail
              refine (climbTop_any A n q2 (c + 1) qc2 (ps ++ dd) dd zs 1 w9 (.inr ⟨.inr (.inr (.inr (.inr ⟨A, n, c, rfl, rfl, hAn, by omega, HS.out, by omega⟩))), HZS.out.symm, rfl⟩) (Lib.hid (S2.out.below h)) (Lib.hid (rng_append HP.out HDR.out)) HDL HDR (Lib.hid (hk.out.below (B0.out.trans ((Ext.trans EW.out h).mono B0.out.size))))).mono ?_
              rintro e W ⟨rfl, hb9⟩
              replace EW := Lib.hid (show Ext W0 W from Ext.trans (Ext.trans EW.out h) hb9)
              replace F14 := Lib.hid (show Dg W b14 zs from (F14.out.bel h).bel hb9)
              clear h hb9 S2
              go_wp2_with fail
              change ∃ C' : World → Prop, _ ∧ _ ∧ _ ∧ anyU _ _ _ _ _ _ 5 _ _ _
              refine anchor EW.out ?_
              refine anyU_takeD (i := 11) (v := .tuple #[.agg (bv zs).toArray, .int .i64 1]) 41 rfl rfl (by kernel_rfl) (by kernel_rfl) (by kernel_rfl) (fun _ _ _ h => h) (by kernel_rfl) (Ext.stable _) (fun _ hu => Ext.trans EW.out hu) (yieldsU_val rfl (fun u hu => by rfl)) ?_
              refine anyU_takeD (i := 12) (v := .agg (bv zs).toArray) 53 rfl rfl (by kernel_rfl) (by kernel_rfl) (by kernel_rfl) (fun _ _ _ h => h) (by kernel_rfl) (Ext.stable _) (fun _ hu => Ext.trans EW.out hu) (yieldsU_val rfl (fun u hu => by rfl)) ?_
              refine anyU_takeD (i := 13) (v := .int .i64 1) 54 rfl rfl (by kernel_rfl) (by kernel_rfl) (by kernel_rfl) (fun _ _ _ h => h) (by kernel_rfl) (Ext.stable _) (fun _ hu => Ext.trans EW.out hu) (yieldsU_val rfl (fun u hu => by rfl)) ?_
              refine anyU_one 15 1 _ rfl rfl (by kernel_rfl) ?_
              intro w9 h
              refine list_storeD rfl (.tmp 11) (.tmp 53) rfl b14 rfl zs rfl HZL.out _ (F14.out.bel h) ?_
              intro wf df kf
              change ∃ C' : World → Prop, _ ∧ _ ∧ _ ∧ anyU _ _ _ _ _ _ 1 _ _ _
              replace EW := Lib.hid (show Ext W0 wf from Below.trans (Ext.trans EW.out h) (kf.below lo14))
              clear df kf h
              refine anchor EW.out ?_
              (try simp only [Act.put])
              refine anyU_tail 16 [] rfl rfl (by decide) (by kernel_rfl) ?_
              intro w9 h
              simp only [Act.put, List.filterMap_cons, List.filterMap_nil, List.getElem?_cons_succ, List.getElem?_cons_zero]
              go_wp2_with fail
              go_meet
              exact ⟨rfl, Lib.hid (Ext.trans E8.out (Ext.trans EW.out h))⟩
          case r14_4_8x =>
            intro w9 h
            go_wp2_with fail
            change ∃ C' : World → Prop, _ ∧ _ ∧ _ ∧ anyU _ _ _ _ _ _ 8 _ _ _
            generalize hA : World.alloc _ _ = W
            have F14 := Lib.hid (show Dg W w9.heap.size zs by rw [← hA, ← HZS.out]; exact Dg.new w9)
            have z0 : W0.heap.size ≤ w9.heap.size := (Ext.trans EW.out h).size
            have NE14 : Hid (Value.ownBlock (.slice (some ⟨e4, 0, none⟩) 0 0) ≠ some w9.heap.size) := Lib.hid (fun e => by have h1 := (ownR_lt O.out _ e).2; have h2 := h.size; omega)
            replace EW := Lib.hid (show Ext W0 W by rw [← hA]; exact Ext.alloc (Ext.trans EW.out h) _)
            replace F8 := Lib.hid (show Dg W b8 dd by rw [← hA]; exact (F8.out.bel h).alloc _)
            replace O := Lib.hid (show OwnR W W0.heap.size (.slice (some ⟨e4, 0, none⟩) 0 0) 0 [] by rw [← hA]; exact ownR_below (ownR_below O.out h) (bel_alloc1 _ _))
            clear hA h
            obtain ⟨b14, hb_⟩ : ∃ b, w9.heap.size = b := ⟨_, rfl⟩
            rw [hb_] at F14 z0 NE14 ⊢
            clear hb_
            have lo14 : W0.heap.size ≤ b14 := z0
            clear z0
            refine anchor EW.out ?_
            refine anyU_one 6 7 _ rfl rfl (by kernel_rfl) ?_
            intro w9 h
            have z0 : W0.heap.size ≤ w9.heap.size := (Ext.trans EW.out h).size
            refine list_appXS rfl rfl (.tmp 46) (.tmp 47) rfl W0.heap.size (.slice (some ⟨e4, 0, none⟩) 0 0) 0 [] rfl (ownR_below O.out h) q c qc ps rfl (S0.out.below (Ext.trans EW.out h)) (by omega) ?hq z0 ?_
            case hq => exact srcD_some (S0.out.below (Ext.trans EW.out h)) HSP.out
            intro v1 W o1 g1 l1
            change ∃ C' : World → Prop, _ ∧ _ ∧ _ ∧ anyU _ _ _ _ _ _ 7 _ _ _
            have z14 : b14 < w9.heap.size := Nat.lt_of_lt_of_le F14.out.lt h.size
            have N14 : Hid (v1.ownBlock ≠ some b14) := Lib.hid (fun e => by rcases l1 _ e with h1 | h1; exact NE14.out h1; omega)
            replace F14 := Lib.hid (show Dg W b14 _ from (F14.out.bel h).grown g1 NE14.out)
            have z8 : b8 < w9.heap.size := Nat.lt_of_lt_of_le F8.out.lt h.size
            have N8 : Hid (v1.ownBlock ≠ some b8) := Lib.hid (fun e => by rcases l1 _ e with h1 | h1; exact NE8.out h1; omega)
            replace F8 := Lib.hid (show Dg W b8 _ from (F8.out.bel h).grown g1 NE8.out)
            replace EW := Lib.hid (show Ext W0 W from grown_below (Ext.trans EW.out h) g1 z0 (fun g hg => (ownR_lt O.out g hg).1))
            replace O := Lib.hid o1
            replace NE14 := N14
            clear z14
            replace NE8 := N8
            clear z8
            clear o1 g1 l1 h z0
            (try simp only [Act.put])
            refine anchor EW.out ?_
            refine anyU_one 9 6 _ rfl rfl (by kernel_rfl) ?_
            intro w9 h
            have z0 : W0.heap.size ≤ w9.heap.size := (Ext.trans EW.out h).size
            refine list_appX rfl (.tmp 48) (.tmp 50) rfl W0.heap.size v1 (0 + c) ([] ++ ps) rfl (ownR_below O.out h) b8 0 1 1 dd rfl (by rw [HDL.out]) (F8.out.bel h).bytes (by omega) z0 ?_
            intro v1 W o1 g1 l1
            change ∃ C' : World → Prop, _ ∧ _ ∧ _ ∧ anyU _ _ _ _ _ _ 6 _ _ _
            have z14 : b14 < w9.heap.size := Nat.lt_of_lt_of_le F14.out.lt h.size
            have N14 : Hid (v1.ownBlock ≠ some b14) := Lib.hid (fun e => by rcases l1 _ e with h1 | h1; exact NE14.out h1; omega)
            replace F14 := Lib.hid (show Dg W b14 _ from (F14.out.bel h).grown g1 NE14.out)
            have z8 : b8 < w9.heap.size := Nat.lt_of_lt_of_le F8.out.lt h.size
            have N8 : Hid (v1.ownBlock ≠ some b8) := Lib.hid (fun e => by rcases l1 _ e with h1 | h1; exact NE8.out h1; omega)
            replace F8 := Lib.hid (show Dg W b8 _ from (F8.out.bel h).grown g1 NE8.out)
            replace EW := Lib.hid (show Ext W0 W from grown_below (Ext.trans EW.out h) g1 z0 (fun g hg => (ownR_lt O.out g hg).1))
            obtain ⟨q2, qc2, rfl, hs2, _⟩ := ownR_src o1
            have e1 : 0 + c + 1 = c + 1 := by omega
            rw [e1] at hs2 ⊢
            have S2 := Lib.hid (show SrcD W q2 (c + 1) qc2 (ps ++ dd) from hs2)
            clear e1
            clear hs2 o1 g1 l1 h z0 O NE14 N14 z14 NE8 N8 z8
            (try simp only [Act.put])
            refine anchor EW.out ?_
            refine anyU_one 10 5 _ rfl rfl (by kernel_rfl) ?_
            intro w9 h
            (try simp only [Act.put])
            go_wp2_with fail
            refine (climbTop_any A n q2 (c + 1) qc2 (ps ++ dd) dd zs 1 w9 (.inr ⟨.inr (.inr (.inr (.inr ⟨A, n, c, rfl, rfl, hAn, by omega, HS.out, by omega⟩))), HZS.out.symm, rfl⟩) (Lib.hid (S2.out.below h)) (Lib.hid (rng_append HP.out HDR.out)) HDL HDR (Lib.hid (hk.out.below (B0.out.trans ((Ext.trans EW.out h).mono B0.out.size))))).mono ?_
            rintro e W ⟨rfl, hb9⟩
            replace EW := Lib.hid (show Ext W0 W from Ext.trans (Ext.trans EW.out h) hb9)
            replace F14 := Lib.hid (show Dg W b14 zs from (F14.out.bel h).bel hb9)
            clear h hb9 S2
            go_wp2_with fail
            change ∃ C' : World → Prop, _ ∧ _ ∧ _ ∧ anyU _ _ _ _ _ _ 5 _ _ _
            refine anchor EW.out ?_
            refine anyU_takeD (i := 11) (v := .tuple #[.agg (bv zs).toArray, .int .i64 1]) 41 rfl rfl (by kernel_rfl) (by kernel_rfl) (by kernel_rfl) (fun _ _ _ h => h) (by kernel_rfl) (Ext.stable _) (fun _ hu => Ext.trans EW.out hu) (yieldsU_val rfl (fun u hu => by rfl)) ?_
            refine anyU_takeD (i := 12) (v := .agg (bv zs).toArray) 53 rfl rfl (by kernel_rfl) (by kernel_rfl) (by kernel_rfl) (fun _ _ _ h => h) (by kernel_rfl) (Ext.stable _) (fun _ hu => Ext.trans EW.out hu) (yieldsU_val rfl (fun u hu => by rfl)) ?_
            refine anyU_takeD (i := 13) (v := .int .i64 1) 54 rfl rfl (by kernel_rfl) (by kernel_rfl) (by kernel_rfl) (fun _ _ _ h => h) (by kernel_rfl) (Ext.stable _) (fun _ hu => Ext.trans EW.out hu) (yieldsU_val rfl (fun u hu => by rfl)) ?_
            refine anyU_one 15 1 _ rfl rfl (by kernel_rfl) ?_
            intro w9 h
            refine list_storeD rfl (.tmp 11) (.tmp 53) rfl b14 rfl zs rfl HZL.out _ (F14.out.bel h) ?_
            intro wf df kf
            change ∃ C' : World → Prop, _ ∧ _ ∧ _ ∧ anyU _ _ _ _ _ _ 1 _ _ _
            replace EW := Lib.hid (show Ext W0 wf from Below.trans (Ext.trans EW.out h) (kf.below lo14))
            clear df kf h
            refine anchor EW.out ?_
            (try simp only [Act.put])
            refine anyU_tail 16 [] rfl rfl (by decide) (by kernel_rfl) ?_
            intro w9 h
            simp only [Act.put, List.filterMap_cons, List.filterMap_nil, List.getElem?_cons_succ, List.getElem?_cons_zero]
            go_wp2_with fail
            go_meet
            exact ⟨rfl, Lib.hid (Ext.trans E8.out (Ext.trans EW.out h))⟩
        case r14_8x =>
          intro w9 h
          go_wp2_with fail
          change ∃ C' : World → Prop, _ ∧ _ ∧ _ ∧ anyU _ _ _ _ _ _ 9 _ _ _
          generalize hA : World.alloc _ _ = W
          have F14 := Lib.hid (show Dg W w9.heap.size zs by rw [← hA, ← HZS.out]; exact Dg.new w9)
          have z0 : W0.heap.size ≤ w9.heap.size := (Ext.trans EW.out h).size
          replace EW := Lib.hid (show Ext W0 W by rw [← hA]; exact Ext.alloc (Ext.trans EW.out h) _)
          replace F8 := Lib.hid (show Dg W b8 dd by rw [← hA]; exact (F8.out.bel h).alloc _)
          clear hA h
          obtain ⟨b14, hb_⟩ : ∃ b, w9.heap.size = b := ⟨_, rfl⟩
          rw [hb_] at F14 z0  ⊢
          clear hb_
          have lo14 : W0.heap.size ≤ b14 := z0
          clear z0
          refine anchor EW.out ?_
          refine anyU_one 4 8 _ rfl rfl (by kernel_rfl) ?_
          intro w9 h
          go_wp2_with fail
          change ∃ C' : World → Prop, _ ∧ _ ∧ _ ∧ anyU _ _ _ _ _ _ 8 _ _ _
          generalize hA : World.alloc _ _ = W
          have z0 : W0.heap.size ≤ w9.heap.size := (Ext.trans EW.out h).size
          have O := Lib.hid (show OwnR W W0.heap.size (.slice (some ⟨w9.heap.size, 0, none⟩) 0 0) 0 [] by rw [← hA]; exact ownR_emp w9 _ z0)
          have z14 : b14 < w9.heap.size := Nat.lt_of_lt_of_le F14.out.lt h.size
          have z8 : b8 < w9.heap.size := Nat.lt_of_lt_of_le F8.out.lt h.size
          replace EW := Lib.hid (show Ext W0 W by rw [← hA]; exact Ext.alloc (Ext.trans EW.out h) _)
          replace F14 := Lib.hid (show Dg W b14 zs by rw [← hA]; exact (F14.out.bel h).alloc _)
          replace F8 := Lib.hid (show Dg W b8 dd by rw [← hA]; exact (F8.out.bel h).alloc _)
          clear hA h z0
          obtain ⟨e4, he4⟩ : ∃ b, w9.heap.size = b := ⟨_, rfl⟩
          rw [he4] at O z14 z8 ⊢
          clear he4
          have NE14 : Hid (Value.ownBlock (.slice (some ⟨e4, 0, none⟩) 0 0) ≠ some b14) := Lib.hid (by simp [Value.ownBlock]; omega)
          have NE8 : Hid (Value.ownBlock (.slice (some ⟨e4, 0, none⟩) 0 0) ≠ some b8) := Lib.hid (by simp [Value.ownBlock]; omega)
          refine anchor EW.out ?_
          refine anyU_one 6 7 _ rfl rfl (by kernel_rfl) ?_
          intro w9 h
          have z0 : W0.heap.size ≤ w9.heap.size := (Ext.trans EW.out h).size
          refine list_appXS rfl rfl (.tmp 46) (.tmp 47) rfl W0.heap.size (.slice (some ⟨e4, 0, none⟩) 0 0) 0 [] rfl (ownR_below O.out h) q c qc ps rfl (S0.out.below (Ext.trans EW.out h)) (by omega) ?hq z0 ?_
          case hq => exact srcD_some (S0.out.below (Ext.trans EW.out h)) HSP.out
          intro v1 W o1 g1 l1
          change ∃ C' : World → Prop, _ ∧ _ ∧ _ ∧ anyU _ _ _ _ _ _ 7 _ _ _
          have z14 : b14 < w9.heap.size := Nat.lt_of_lt_of_le F14.out.lt h.size
          have N14 : Hid (v1.ownBlock ≠ some b14) := Lib.hid (fun e => by rcases l1 _ e with h1 | h1; exact NE14.out h1; omega)
          replace F14 := Lib.hid (show Dg W b14 _ from (F14.out.bel h).grown g1 NE14.out)
          have z8 : b8 < w9.heap.size := Nat.lt_of_lt_of_le F8.out.lt h.size
          have N8 : Hid (v1.ownBlock ≠ some b8) := Lib.hid (fun e => by rcases l1 _ e with h1 | h1; exact NE8.out h1; omega)
          replace F8 := Lib.hid (show Dg W b8 _ from (F8.out.bel h).grown g1 NE8.out)
          replace EW := Lib.hid (show Ext W0 W from grown_below (Ext.trans EW.out h) g1 z0 (fun g hg => (ownR_lt O.out g hg).1))
          replace O := Lib.hid o1
          replace NE14 := N14
          clear z14
          replace NE8 := N8
          clear z8
          clear o1 g1 l1 h z0
          (try simp only [Act.put])
          refine anchor EW.out ?_
          refine anyU_one 9 6 _ rfl rfl (by kernel_rfl) ?_
          intro w9 h
          have z0 : W0.heap.size ≤ w9.heap.size := (Ext.trans EW.out h).size
          refine list_appX rfl (.tmp 48) (.tmp 50) rfl W0.heap.size v1 (0 + c) ([] ++ ps) rfl (ownR_below O.out h) b8 0 1 1 dd rfl (by rw [HDL.out]) (F8.out.bel h).bytes (by omega) z0 ?_
          intro v1 W o1 g1 l1
          change ∃ C' : World → Prop, _ ∧ _ ∧ _ ∧ anyU _ _ _ _ _ _ 6 _ _ _
          have z14 : b14 < w9.heap.size := Nat.lt_of_lt_of_le F14.out.lt h.size
          have N14 : Hid (v1.ownBlock ≠ some b14) := Lib.hid (fun e => by rcases l1 _ e with h1 | h1; exact NE14.out h1; omega)
          replace F14 := Lib.hid (show Dg W b14 _ from (F14.out.bel h).grown g1 NE14.out)
          have z8 : b8 < w9.heap.size := Nat.lt_of_lt_of_le F8.out.lt h.size
          have N8 : Hid (v1.ownBlock ≠ some b8) := Lib.hid (fun e => by rcases l1 _ e with h1 | h1; exact NE8.out h1; omega)
          replace F8 := Lib.hid (show Dg W b8 _ from (F8.out.bel h).grown g1 NE8.out)
          replace EW := Lib.hid (show Ext W0 W from grown_below (Ext.trans EW.out h) g1 z0 (fun g hg => (ownR_lt O.out g hg).1))
          obtain ⟨q2, qc2, rfl, hs2, _⟩ := ownR_src o1
          have e1 : 0 + c + 1 = c + 1 := by omega
          rw [e1] at hs2 ⊢
          have S2 := Lib.hid (show SrcD W q2 (c + 1) qc2 (ps ++ dd) from hs2)
          clear e1
          clear hs2 o1 g1 l1 h z0 O NE14 N14 z14 NE8 N8 z8
          (try simp only [Act.put])
          refine anchor EW.out ?_
          refine anyU_one 10 5 _ rfl rfl (by kernel_rfl) ?_
          intro w9 h
          (try simp only [Act.put])
          go_wp2_with fail
          refine (climbTop_any A n q2 (c + 1) qc2 (ps ++ dd) dd zs 1 w9 (.inr ⟨.inr (.inr (.inr (.inr ⟨A, n, c, rfl, rfl, hAn, by omega, HS.out, by omega⟩))), HZS.out.symm, rfl⟩) (Lib.hid (S2.out.below h)) (Lib.hid (rng_append HP.out HDR.out)) HDL HDR (Lib.hid (hk.out.below (B0.out.trans ((Ext.trans EW.out h).mono B0.out.size))))).mono ?_
          rintro e W ⟨rfl, hb9⟩
          replace EW := Lib.hid (show Ext W0 W from Ext.trans (Ext.trans EW.out h) hb9)
          replace F14 := Lib.hid (show Dg W b14 zs from (F14.out.bel h).bel hb9)
          clear h hb9 S2
          go_wp2_with fail
          change ∃ C' : World → Prop, _ ∧ _ ∧ _ ∧ anyU _ _ _ _ _ _ 5 _ _ _
          refine anchor EW.out ?_
          refine anyU_takeD (i := 11) (v := .tuple #[.agg (bv zs).toArray, .int .i64 1]) 41 rfl rfl (by kernel_rfl) (by kernel_rfl) (by kernel_rfl) (fun _ _ _ h => h) (by kernel_rfl) (Ext.stable _) (fun _ hu => Ext.trans EW.out hu) (yieldsU_val rfl (fun u hu => by rfl)) ?_
          refine anyU_takeD (i := 12) (v := .agg (bv zs).toArray) 53 rfl rfl (by kernel_rfl) (by kernel_rfl) (by kernel_rfl) (fun _ _ _ h => h) (by kernel_rfl) (Ext.stable _) (fun _ hu => Ext.trans EW.out hu) (yieldsU_val rfl (fun u hu => by rfl)) ?_
          refine anyU_takeD (i := 13) (v := .int .i64 1) 54 rfl rfl (by kernel_rfl) (by kernel_rfl) (by kernel_rfl) (fun _ _ _ h => h) (by kernel_rfl) (Ext.stable _) (fun _ hu => Ext.trans EW.out hu) (yieldsU_val rfl (fun u hu => by rfl)) ?_
          refine anyU_one 15 1 _ rfl rfl (by kernel_rfl) ?_
          intro w9 h
          refine list_storeD rfl (.tmp 11) (.tmp 53) rfl b14 rfl zs rfl HZL.out _ (F14.out.bel h) ?_
          intro wf df kf
          change ∃ C' : World → Prop, _ ∧ _ ∧ _ ∧ anyU _ _ _ _ _ _ 1 _ _ _
          replace EW := Lib.hid (show Ext W0 wf from Below.trans (Ext.trans EW.out h) (kf.below lo14))
          clear df kf h
          refine anchor EW.out ?_
          (try simp only [Act.put])
          refine anyU_tail 16 [] rfl rfl (by decide) (by kernel_rfl) ?_
          intro w9 h
          simp only [Act.put, List.filterMap_cons, List.filterMap_nil, List.getElem?_cons_succ, List.getElem?_cons_zero]
          go_wp2_with fail
          go_meet
          exact ⟨rfl, Lib.hid (Ext.trans E8.out (Ext.trans EW.out h))⟩
      case r14x =>
        intro w9 h
        go_wp2_with fail
        change ∃ C' : World → Prop, _ ∧ _ ∧ _ ∧ anyU _ _ _ _ _ _ 10 _ _ _
        generalize hA : World.alloc _ _ = W
        have F14 := Lib.hid (show Dg W w9.heap.size zs by rw [← hA, ← HZS.out]; exact Dg.new w9)
        have z0 : W0.heap.size ≤ w9.heap.size := (Ext.trans EW.out h).size
        replace EW := Lib.hid (show Ext W0 W by rw [← hA]; exact Ext.alloc (Ext.trans EW.out h) _)
        clear hA h
        obtain ⟨b14, hb_⟩ : ∃ b, w9.heap.size = b := ⟨_, rfl⟩
        rw [hb_] at F14 z0  ⊢
        clear hb_
        have lo14 : W0.heap.size ≤ b14 := z0
        clear z0
        refine anchor EW.out ?_
        refine anyU_two 4 8 9 _ _ rfl rfl rfl rfl (by kernel_rfl) ?r4_14x ?r8_14x
        case r4_14x =>
          intro w9 h
          go_wp2_with fail
          change ∃ C' : World → Prop, _ ∧ _ ∧ _ ∧ anyU _ _ _ _ _ _ 9 _ _ _
          generalize hA : World.alloc _ _ = W
          have z0 : W0.heap.size ≤ w9.heap.size := (Ext.trans EW.out h).size
          have O := Lib.hid (show OwnR W W0.heap.size (.slice (some ⟨w9.heap.size, 0, none⟩) 0 0) 0 [] by rw [← hA]; exact ownR_emp w9 _ z0)
          have z14 : b14 < w9.heap.size := Nat.lt_of_lt_of_le F14.out.lt h.size
          replace EW := Lib.hid (show Ext W0 W by rw [← hA]; exact Ext.alloc (Ext.trans EW.out h) _)
          replace F14 := Lib.hid (show Dg W b14 zs by rw [← hA]; exact (F14.out.bel h).alloc _)
          clear hA h z0
          obtain ⟨e4, he4⟩ : ∃ b, w9.heap.size = b := ⟨_, rfl⟩
          rw [he4] at O z14 ⊢
          clear he4
          have NE14 : Hid (Value.ownBlock (.slice (some ⟨e4, 0, none⟩) 0 0) ≠ some b14) := Lib.hid (by simp [Value.ownBlock]; omega)
          refine anchor EW.out ?_
          refine anyU_two 6 8 8 _ _ rfl rfl rfl rfl (by kernel_rfl) ?r6_4_14x ?r8_4_14x
          case r6_4_14x =>
            intro w9 h
            have z0 : W0.heap.size ≤ w9.heap.size := (Ext.trans EW.out h).size
            refine list_appXS rfl rfl (.tmp 46) (.tmp 47) rfl W0.heap.size (.slice (some ⟨e4, 0, none⟩) 0 0) 0 [] rfl (ownR_below O.out h) q c qc ps rfl (S0.out.below (Ext.trans EW.out h)) (by omega) ?hq z0 ?_
            case hq => exact srcD_some (S0.out.below (Ext.trans EW.out h)) HSP.out
            intro v1 W o1 g1 l1
            change ∃ C' : World → Prop, _ ∧ _ ∧ _ ∧ anyU _ _ _ _ _ _ 8 _ _ _
            have z14 : b14 < w9.heap.size := Nat.lt_of_lt_of_le F14.out.lt h.size
            have N14 : Hid (v1.ownBlock ≠ some b14) := Lib.hid (fun e => by rcases l1 _ e with h1 | h1; exact NE14.out h1; omega)
            replace F14 := Lib.hid (show Dg W b14 _ from (F14.out.bel h).grown g1 NE14.out)
            replace EW := Lib.hid (show Ext W0 W from grown_below (Ext.trans EW.out h) g1 z0 (fun g hg => (ownR_lt O.out g hg).1))
            replace O := Lib.hid o1
            replace NE14 := N14
            clear z14
            clear o1 g1 l1 h z0
            (try simp only [Act.put])
            refine anchor EW.out ?_
            refine anyU_one 8 7 _ rfl rfl (by kernel_rfl) ?_
            intro w9 h
            refine list_build1 (by rfl) (.tmp 49) rfl (bv dd) rfl (by rw [bv_len]; exact HDL.out) ?_
            change ∃ C' : World → Prop, _ ∧ _ ∧ _ ∧ anyU _ _ _ _ _ _ 7 _ _ _
            generalize hA : World.alloc _ _ = W
            have F8 := Lib.hid (show Dg W w9.heap.size dd by rw [← hA]; exact Dg.box w9 HDL.out)
            have z0 : W0.heap.size ≤ w9.heap.size := (Ext.trans EW.out h).size
            have NE8 : Hid (Value.ownBlock v1 ≠ some w9.heap.size) := Lib.hid (fun e => by have h1 := (ownR_lt O.out _ e).2; have h2 := h.size; omega)
            replace EW := Lib.hid (show Ext W0 W by rw [← hA]; exact Ext.alloc (Ext.trans EW.out h) _)
            replace F14 := Lib.hid (show Dg W b14 zs by rw [← hA]; exact (F14.out.bel h).alloc _)
            replace O := Lib.hid (show OwnR W W0.heap.size v1 (0 + c) ([] ++ ps) by rw [← hA]; exact ownR_below (ownR_below O.out h) (bel_alloc1 _ _))
            clear hA h
            obtain ⟨b8, hb_⟩ : ∃ b, w9.heap.size = b := ⟨_, rfl⟩
            rw [hb_] at F8 z0 NE8 ⊢
            clear hb_
            have lo8 : W0.heap.size ≤ b8 := z0
            clear z0
            refine anchor EW.out ?_
            refine anyU_one 9 6 _ rfl rfl (by kernel_rfl) ?_
            intro w9 h
            have z0 : W0.heap.size ≤ w9.heap.size := (Ext.trans EW.out h).size
            refine list_appX rfl (.tmp 48) (.tmp 50) rfl W0.heap.size v1 (0 + c) ([] ++ ps) rfl (ownR_below O.out h) b8 0 1 1 dd rfl (by rw [HDL.out]) (F8.out.bel h).bytes (by omega) z0 ?_
            intro v1 W o1 g1 l1
            change ∃ C' : World → Prop, _ ∧ _ ∧ _ ∧ anyU _ _ _ _ _ _ 6 _ _ _
            have z14 : b14 < w9.heap.size := Nat.lt_of_lt_of_le F14.out.lt h.size
            have N14 : Hid (v1.ownBlock ≠ some b14) := Lib.hid (fun e => by rcases l1 _ e with h1 | h1; exact NE14.out h1; omega)
            replace F14 := Lib.hid (show Dg W b14 _ from (F14.out.bel h).grown g1 NE14.out)
            have z8 : b8 < w9.heap.size := Nat.lt_of_lt_of_le F8.out.lt h.size
            have N8 : Hid (v1.ownBlock ≠ some b8) := Lib.hid (fun e => by rcases l1 _ e with h1 | h1; exact NE8.out h1; omega)
            replace F8 := Lib.hid (show Dg W b8 _ from (F8.out.bel h).grown g1 NE8.out)
            replace EW := Lib.hid (show Ext W0 W from grown_below (Ext.trans EW.out h) g1 z0 (fun g hg => (ownR_lt O.out g hg).1))
            obtain ⟨q2, qc2, rfl, hs2, _⟩ := ownR_src o1
            have e1 : 0 + c + 1 = c + 1 := by omega
            rw [e1] at hs2 ⊢
            have S2 := Lib.hid (show SrcD W q2 (c + 1) qc2 (ps ++ dd) from hs2)
            clear e1
            clear hs2 o1 g1 l1 h z0 O NE14 N14 z14 NE8 N8 z8
            (try simp only [Act.put])
            refine anchor EW.out ?_
            refine anyU_one 10 5 _ rfl rfl (by kernel_rfl) ?_
            intro w9 h
            (try simp only [Act.put])
            go_wp2_with fail
            refine (climbTop_any A n q2 (c + 1) qc2 (ps ++ dd) dd zs 1 w9 (.inr ⟨.inr (.inr (.inr (.inr ⟨A, n, c, rfl, rfl, hAn, by omega, HS.out, by omega⟩))), HZS.out.symm, rfl⟩) (Lib.hid (S2.out.below h)) (Lib.hid (rng_append HP.out HDR.out)) HDL HDR (Lib.hid (hk.out.below (B0.out.trans ((Ext.trans EW.out h).mono B0.out.size))))).mono ?_
            rintro e W ⟨rfl, hb9⟩
            replace EW := Lib.hid (show Ext W0 W from Ext.trans (Ext.trans EW.out h) hb9)
            replace F14 := Lib.hid (show Dg W b14 zs from (F14.out.bel h).bel hb9)
            clear h hb9 S2
            go_wp2_with fail
            change ∃ C' : World → Prop, _ ∧ _ ∧ _ ∧ anyU _ _ _ _ _ _ 5 _ _ _
            refine anchor EW.out ?_
            refine anyU_takeD (i := 11) (v := .tuple #[.agg (bv zs).toArray, .int .i64 1]) 41 rfl rfl (by kernel_rfl) (by kernel_rfl) (by kernel_rfl) (fun _ _ _ h => h) (by kernel_rfl) (Ext.stable _) (fun _ hu => Ext.trans EW.out hu) (yieldsU_val rfl (fun u hu => by rfl)) ?_
            refine anyU_takeD (i := 12) (v := .agg (bv zs).toArray) 53 rfl rfl (by kernel_rfl) (by kernel_rfl) (by kernel_rfl) (fun _ _ _ h => h) (by kernel_rfl) (Ext.stable _) (fun _ hu => Ext.trans EW.out hu) (yieldsU_val rfl (fun u hu => by rfl)) ?_
            refine anyU_takeD (i := 13) (v := .int .i64 1) 54 rfl rfl (by kernel_rfl) (by kernel_rfl) (by kernel_rfl) (fun _ _ _ h => h) (by kernel_rfl) (Ext.stable _) (fun _ hu => Ext.trans EW.out hu) (yieldsU_val rfl (fun u hu => by rfl)) ?_
            refine anyU_one 15 1 _ rfl rfl (by kernel_rfl) ?_
            intro w9 h
            refine list_storeD rfl (.tmp 11) (.tmp 53) rfl b14 rfl zs rfl HZL.out _ (F14.out.bel h) ?_
            intro wf df kf
            change ∃ C' : World → Prop, _ ∧ _ ∧ _ ∧ anyU _ _ _ _ _ _ 1 _ _ _
            replace EW := Lib.hid (show Ext W0 wf from Below.trans (Ext.trans EW.out h) (kf.below lo14))
            clear df kf h
            refine anchor EW.out ?_
            (try simp only [Act.put])
            refine anyU_tail 16 [] rfl rfl (by decide) (by kernel_rfl) ?_
            intro w9 h
            simp only [Act.put, List.filterMap_cons, List.filterMap_nil, List.getElem?_cons_succ, List.getElem?_cons_zero]
            go_wp2_with fail
            go_meet
            exact ⟨rfl, Lib.hid (Ext.trans E8.out (Ext.trans EW.out h))⟩
          case r8_4_14x =>
            intro w9 h
            refine list_build1 (by rfl) (.tmp 49) rfl (bv dd) rfl (by rw [bv_len]; exact HDL.out) ?_
            change ∃ C' : World → Prop, _ ∧ _ ∧ _ ∧ anyU _ _ _ _ _ _ 8 _ _ _
            generalize hA : World.alloc _ _ = W
            have F8 := Lib.hid (show Dg W w9.heap.size dd by rw [← hA]; exact Dg.box w9 HDL.out)
            have z0 : W0.heap.size ≤ w9.heap.size := (Ext.trans EW.out h).size
            have NE8 : Hid (Value.ownBlock (.slice (some ⟨e4, 0, none⟩) 0 0) ≠ some w9.heap.size) := Lib.hid (fun e => by have h1 := (ownR_lt O.out _ e).2; have h2 := h.size; omega)
            replace EW := Lib.hid (show Ext W0 W by rw [← hA]; exact Ext.alloc (Ext.trans EW.out h) _)
            replace F14 := Lib.hid (show Dg W b14 zs by rw [← hA]; exact (F14.out.bel h).alloc _)
            replace O := Lib.hid (show OwnR W W0.heap.size (.slice (some ⟨e4, 0, none⟩) 0 0) 0 [] by rw [← hA]; exact ownR_below (ownR_below O.out h) (bel_alloc1 _ _))
            clear hA h
            obtain ⟨b8, hb_⟩ : ∃ b, w9.heap.size = b := ⟨_, rfl⟩
            rw [hb_] at F8 z0 NE8 ⊢
            clear hb_
            have lo8 : W0.heap.size ≤ b8 := z0
            clear z0
            refine anchor EW.out ?_
            refine anyU_one 6 7 _ rfl rfl (by kernel_rfl) ?_
            intro w9 h
            have z0 : W0.heap.size ≤ w9.heap.size := (Ext.trans EW.out h).size
            refine list_appXS rfl rfl (.tmp 46) (.tmp 47) rfl W0.heap.size (.slice (some ⟨e4, 0, none⟩) 0 0) 0 [] rfl (ownR_below O.out h) q c qc ps rfl (S0.out.below (Ext.trans EW.out h)) (by omega) ?hq z0 ?_
            case hq => exact srcD_some (S0.out.below (Ext.trans EW.out h)) HSP.out
            intro v1 W o1 g1 l1
            change ∃ C' : World → Prop, _ ∧ _ ∧ _ ∧ anyU _ _ _ _ _ _ 7 _ _ _
            have z14 : b14 < w9.heap.size := Nat.lt_of_lt_of_le F14.out.lt h.size
            have N14 : Hid (v1.ownBlock ≠ some b14) := Lib.hid (fun e => by rcases l1 _ e with h1 | h1; exact NE14.out h1; omega)
            replace F14 := Lib.hid (show Dg W b14 _ from (F14.out.bel h).grown g1 NE14.out)
            have z8 : b8 < w9.heap.size := Nat.lt_of_lt_of_le F8.out.lt h.size
            have N8 : Hid (v1.ownBlock ≠ some b8) := Lib.hid (fun e => by rcases l1 _ e with h1 | h1; exact NE8.out h1; omega)
            replace F8 := Lib.hid (show Dg W b8 _ from (F8.out.bel h).grown g1 NE8.out)
            replace EW := Lib.hid (show Ext W0 W from grown_below (Ext.trans EW.out h) g1 z0 (fun g hg => (ownR_lt O.out g hg).1))
            replace O := Lib.hid o1
            replace NE14 := N14
            clear z14
            replace NE8 := N8
            clear z8
            clear o1 g1 l1 h z0
            (try simp only [Act.put])
            refine anchor EW.out ?_
            refine anyU_one 9 6 _ rfl rfl (by kernel_rfl) ?_
            intro w9 h
            have z0 : W0.heap.size ≤ w9.heap.size := (Ext.trans EW.out h).size
            refine list_appX rfl (.tmp 48) (.tmp 50) rfl W0.heap.size v1 (0 + c) ([] ++ ps) rfl (ownR_below O.out h) b8 0 1 1 dd rfl (by rw [HDL.out]) (F8.out.bel h).bytes (by omega) z0 ?_
            intro v1 W o1 g1 l1
            change ∃ C' : World → Prop, _ ∧ _ ∧ _ ∧ anyU _ _ _ _ _ _ 6 _ _ _
            have z14 : b14 < w9.heap.size := Nat.lt_of_lt_of_le F14.out.lt h.size
            have N14 : Hid (v1.ownBlock ≠ some b14) := Lib.hid (fun e => by rcases l1 _ e with h1 | h1; exact NE14.out h1; omega)
            replace F14 := Lib.hid (show Dg W b14 _ from (F14.out.bel h).grown g1 NE14.out)
            have z8 : b8 < w9.heap.size := Nat.lt_of_lt_of_le F8.out.lt h.size
            have N8 : Hid (v1.ownBlock ≠ some b8) := Lib.hid (fun e => by rcases l1 _ e with h1 | h1; exact NE8.out h1; omega)
            replace F8 := Lib.hid (show Dg W b8 _ from (F8.out.bel h).grown g1 NE8.out)
            replace EW := Lib.hid (show Ext W0 W from grown_below (Ext.trans EW.out h) g1 z0 (fun g hg => (ownR_lt O.out g hg).1))
            obtain ⟨q2, qc2, rfl, hs2, _⟩ := ownR_src o1
            have e1 : 0 + c + 1 = c + 1 := by omega
            rw [e1] at hs2 ⊢
            have S2 := Lib.hid (show SrcD W q2 (c + 1) qc2 (ps ++ dd) from hs2)
            clear e1
            clear hs2 o1 g1 l1 h z0 O NE14 N14 z14 NE8 N8 z8
            (try simp only [Act.put])
            refine anchor EW.out ?_
            refine anyU_one 10 5 _ rfl rfl (by kernel_rfl) ?_
            intro w9 h
            (try simp only [Act.put])
            go_wp2_with fail
            refine (climbTop_any A n q2 (c + 1) qc2 (ps ++ dd) dd zs 1 w9 (.inr ⟨.inr (.inr (.inr (.inr ⟨A, n, c, rfl, rfl, hAn, by omega, HS.out, by omega⟩))), HZS.out.symm, rfl⟩) (Lib.hid (S2.out.below h)) (Lib.hid (rng_append HP.out HDR.out)) HDL HDR (Lib.hid (hk.out.below (B0.out.trans ((Ext.trans EW.out h).mono B0.out.size))))).mono ?_
            rintro e W ⟨rfl, hb9⟩
            replace EW := Lib.hid (show Ext W0 W from Ext.trans (Ext.trans EW.out h) hb9)
            replace F14 := Lib.hid (show Dg W b14 zs from (F14.out.bel h).bel hb9)
            clear h hb9 S2
            go_wp2_with fail
            change ∃ C' : World → Prop, _ ∧ _ ∧ _ ∧ anyU _ _ _ _ _ _ 5 _ _ _
            refine anchor EW.out ?_
            refine anyU_takeD (i := 11) (v := .tuple #[.agg (bv zs).toArray, .int .i64 1]) 41 rfl rfl (by kernel_rfl) (by kernel_rfl) (by kernel_rfl) (fun _ _ _ h => h) (by kernel_rfl) (Ext.stable _) (fun _ hu => Ext.trans EW.out hu) (yieldsU_val rfl (fun u hu => by rfl)) ?_
            refine anyU_takeD (i := 12) (v := .agg (bv zs).toArray) 53 rfl rfl (by kernel_rfl) (by kernel_rfl) (by kernel_rfl) (fun _ _ _ h => h) (by kernel_rfl) (Ext.stable _) (fun _ hu => Ext.trans EW.out hu) (yieldsU_val rfl (fun u hu => by rfl)) ?_
            refine anyU_takeD (i := 13) (v := .int .i64 1) 54 rfl rfl (by kernel_rfl) (by kernel_rfl) (by kernel_rfl) (fun _ _ _ h => h) (by kernel_rfl) (Ext.stable _) (fun _ hu => Ext.trans EW.out hu) (yieldsU_val rfl (fun u hu => by rfl)) ?_
            refine anyU_one 15 1 _ rfl rfl (by kernel_rfl) ?_
            intro w9 h
            refine list_storeD rfl (.tmp 11) (.tmp 53) rfl b14 rfl zs rfl HZL.out _ (F14.out.bel h) ?_
            intro wf df kf
            change ∃ C' : World → Prop, _ ∧ _ ∧ _ ∧ anyU _ _ _ _ _ _ 1 _ _ _
            replace EW := Lib.hid (show Ext W0 wf from Below.trans (Ext.trans EW.out h) (kf.below lo14))
            clear df kf h
            refine anchor EW.out ?_
            (try simp only [Act.put])
            refine anyU_tail 16 [] rfl rfl (by decide) (by kernel_rfl) ?_
            intro w9 h
            simp only [Act.put, List.filterMap_cons, List.filterMap_nil, List.getElem?_cons_succ, List.getElem?_cons_zero]
            go_wp2_with fail
            go_meet
            exact ⟨rfl, Lib.hid (Ext.trans E8.out (Ext.trans EW.out h))⟩
        case r8_14x =>
          intro w9 h
          refine list_build1 (by rfl) (.tmp 49) rfl (bv dd) rfl (by rw [bv_len]; exact HDL.out) ?_
          change ∃ C' : World → Prop, _ ∧ _ ∧ _ ∧ anyU _ _ _ _ _ _ 9 _ _ _
          generalize hA : World.alloc _ _ = W
          have F8 := Lib.hid (show Dg W w9.heap.size dd by rw [← hA]; exact Dg.box w9 HDL.out)
          have z0 : W0.heap.size ≤ w9.heap.size := (Ext.trans EW.out h).size
          replace EW := Lib.hid (show Ext W0 W by rw [← hA]; exact Ext.alloc (Ext.trans EW.out h) _)
          replace F14 := Lib.hid (show Dg W b14 zs by rw [← hA]; exact (F14.out.bel h).alloc _)
          clear hA h
          obtain ⟨b8, hb_⟩ : ∃ b, w9.heap.size = b := ⟨_, rfl⟩
          rw [hb_] at F8 z0  ⊢
          clear hb_
          have lo8 : W0.heap.size ≤ b8 := z0
          clear z0
          refine anchor EW.out ?_
          refine anyU_one 4 8 _ rfl rfl (by kernel_rfl) ?_
          intro w9 h
          go_wp2_with fail
          change ∃ C' : World → Prop, _ ∧ _ ∧ _ ∧ anyU _ _ _ _ _ _ 8 _ _ _
          generalize hA : World.alloc _ _ = W
          have z0 : W0.heap.size ≤ w9.heap.size := (Ext.trans EW.out h).size
          have O := Lib.hid (show OwnR W W0.heap.size (.slice (some ⟨w9.heap.size, 0, none⟩) 0 0) 0 [] by rw [← hA]; exact ownR_emp w9 _ z0)
          have z14 : b14 < w9.heap.size := Nat.lt_of_lt_of_le F14.out.lt h.size
          have z8 : b8 < w9.heap.size := Nat.lt_of_lt_of_le F8.out.lt h.size
          replace EW := Lib.hid (show Ext W0 W by rw [← hA]; exact Ext.alloc (Ext.trans EW.out h) _)
          replace F14 := Lib.hid (show Dg W b14 zs by rw [← hA]; exact (F14.out.bel h).alloc _)
          replace F8 := Lib.hid (show Dg W b8 dd by rw [← hA]; exact (F8.out.bel h).alloc _)
          clear hA h z0
          obtain ⟨e4, he4⟩ : ∃ b, w9.heap.size = b := ⟨_, rfl⟩
          rw [he4] at O z14 z8 ⊢
          clear he4
          have NE14 : Hid (Value.ownBlock (.slice (some ⟨e4, 0, none⟩) 0 0) ≠ some b14) := Lib.hid (by simp [Value.ownBlock]; omega)
          have NE8 : Hid (Value.ownBlock (.slice (some ⟨e4, 0, none⟩) 0 0) ≠ some b8) := Lib.hid (by simp [Value.ownBlock]; omega)
          refine anchor EW.out ?_
          refine anyU_one 6 7 _ rfl rfl (by kernel_rfl) ?_
          intro w9 h
          have z0 : W0.heap.size ≤ w9.heap.size := (Ext.trans EW.out h).size
          refine list_appXS rfl rfl (.tmp 46) (.tmp 47) rfl W0.heap.size (.slice (some ⟨e4, 0, none⟩) 0 0) 0 [] rfl (ownR_below O.out h) q c qc ps rfl (S0.out.below (Ext.trans EW.out h)) (by omega) ?hq z0 ?_
          case hq => exact srcD_some (S0.out.below (Ext.trans EW.out h)) HSP.out
          intro v1 W o1 g1 l1
          change ∃ C' : World → Prop, _ ∧ _ ∧ _ ∧ anyU _ _ _ _ _ _ 7 _ _ _
          have z14 : b14 < w9.heap.size := Nat.lt_of_lt_of_le F14.out.lt h.size
          have N14 : Hid (v1.ownBlock ≠ some b14) := Lib.hid (fun e => by rcases l1 _ e with h1 | h1; exact NE14.out h1; omega)
          replace F14 := Lib.hid (show Dg W b14 _ from (F14.out.bel h).grown g1 NE14.out)
          have z8 : b8 < w9.heap.size := Nat.lt_of_lt_of_le F8.out.lt h.size
          have N8 : Hid (v1.ownBlock ≠ some b8) := Lib.hid (fun e => by rcases l1 _ e with h1 | h1; exact NE8.out h1; omega)
          replace F8 := Lib.hid (show Dg W b8 _ from (F8.out.bel h).grown g1 NE8.out)
          replace EW := Lib.hid (show Ext W0 W from grown_below (Ext.trans EW.out h) g1 z0 (fun g hg => (ownR_lt O.out g hg).1))
          replace O := Lib.hid o1
          replace NE14 := N14
          clear z14
          replace NE8 := N8
          clear z8
          clear o1 g1 l1 h z0
          (try simp only [Act.put])
          refine anchor EW.out ?_
          refine anyU_one 9 6 _ rfl rfl (by kernel_rfl) ?_
          intro w9 h
          have z0 : W0.heap.size ≤ w9.heap.size := (Ext.trans EW.out h).size
          refine list_appX rfl (.tmp 48) (.tmp 50) rfl W0.heap.size v1 (0 + c) ([] ++ ps) rfl (ownR_below O.out h) b8 0 1 1 dd rfl (by rw [HDL.out]) (F8.out.bel h).bytes (by omega) z0 ?_
          intro v1 W o1 g1 l1
          change ∃ C' : World → Prop, _ ∧ _ ∧ _ ∧ anyU _ _ _ _ _ _ 6 _ _ _
          have z14 : b14 < w9.heap.size := Nat.lt_of_lt_of_le F14.out.lt h.size
          have N14 : Hid (v1.ownBlock ≠ some b14) := Lib.hid (fun e => by rcases l1 _ e with h1 | h1; exact NE14.out h1; omega)
          replace F14 := Lib.hid (show Dg W b14 _ from (F14.out.bel h).grown g1 NE14.out)
          have z8 : b8 < w9.heap.size := Nat.lt_of_lt_of_le F8.out.lt h.size
          have N8 : Hid (v1.ownBlock ≠ some b8) := Lib.hid (fun e => by rcases l1 _ e with h1 | h1; exact NE8.out h1; omega)
          replace F8 := Lib.hid (show Dg W b8 _ from (F8.out.bel h).grown g1 NE8.out)
          replace EW := Lib.hid (show Ext W0 W from grown_below (Ext.trans EW.out h) g1 z0 (fun g hg => (ownR_lt O.out g hg).1))
          obtain ⟨q2, qc2, rfl, hs2, _⟩ := ownR_src o1
          have e1 : 0 + c + 1 = c + 1 := by omega
          rw [e1] at hs2 ⊢
          have S2 := Lib.hid (show SrcD W q2 (c + 1) qc2 (ps ++ dd) from hs2)
          clear e1
          clear hs2 o1 g1 l1 h z0 O NE14 N14 z14 NE8 N8 z8
          (try simp only [Act.put])
          refine anchor EW.out ?_
          refine anyU_one 10 5 _ rfl rfl (by kernel_rfl) ?_
          intro w9 h
          (try simp only [Act.put])
          go_wp2_with fail
          refine (climbTop_any A n q2 (c + 1) qc2 (ps ++ dd) dd zs 1 w9 (.inr ⟨.inr (.inr (.inr (.inr ⟨A, n, c, rfl, rfl, hAn, by omega, HS.out, by omega⟩))), HZS.out.symm, rfl⟩) (Lib.hid (S2.out.below h)) (Lib.hid (rng_append HP.out HDR.out)) HDL HDR (Lib.hid (hk.out.below (B0.out.trans ((Ext.trans EW.out h).mono B0.out.size))))).mono ?_
          rintro e W ⟨rfl, hb9⟩
          replace EW := Lib.hid (show Ext W0 W from Ext.trans (Ext.trans EW.out h) hb9)
          replace F14 := Lib.hid (show Dg W b14 zs from (F14.out.bel h).bel hb9)
          clear h hb9 S2
          go_wp2_with fail
          change ∃ C' : World → Prop, _ ∧ _ ∧ _ ∧ anyU _ _ _ _ _ _ 5 _ _ _
          refine anchor EW.out ?_
          refine anyU_takeD (i := 11) (v := .tuple #[.agg (bv zs).toArray, .int .i64 1]) 41 rfl rfl (by kernel_rfl) (by kernel_rfl) (by kernel_rfl) (fun _ _ _ h => h) (by kernel_rfl) (Ext.stable _) (fun _ hu => Ext.trans EW.out hu) (yieldsU_val rfl (fun u hu => by rfl)) ?_
          refine anyU_takeD (i := 12) (v := .agg (bv zs).toArray) 53 rfl rfl (by kernel_rfl) (by kernel_rfl) (by kernel_rfl) (fun _ _ _ h => h) (by kernel_rfl) (Ext.stable _) (fun _ hu => Ext.trans EW.out hu) (yieldsU_val rfl (fun u hu => by rfl)) ?_
          refine anyU_takeD (i := 13) (v := .int .i64 1) 54 rfl rfl (by kernel_rfl) (by kernel_rfl) (by kernel_rfl) (fun _ _ _ h => h) (by kernel_rfl) (Ext.stable _) (fun _ hu => Ext.trans EW.out hu) (yieldsU_val rfl (fun u hu => by rfl)) ?_
          refine anyU_one 15 1 _ rfl rfl (by kernel_rfl) ?_
          intro w9 h
          refine list_storeD rfl (.tmp 11) (.tmp 53) rfl b14 rfl zs rfl HZL.out _ (F14.out.bel h) ?_
          intro wf df kf
          change ∃ C' : World → Prop, _ ∧ _ ∧ _ ∧ anyU _ _ _ _ _ _ 1 _ _ _
          replace EW := Lib.hid (show Ext W0 wf from Below.trans (Ext.trans EW.out h) (kf.below lo14))
          clear df kf h
          refine anchor EW.out ?_
          (try simp only [Act.put])
          refine anyU_tail 16 [] rfl rfl (by decide) (by kernel_rfl) ?_
          intro w9 h
          simp only [Act.put, List.filterMap_cons, List.filterMap_nil, List.getElem?_cons_succ, List.getElem?_cons_zero]
          go_wp2_with fail
          go_meet
          exact ⟨rfl, Lib.hid (Ext.trans E8.out (Ext.trans EW.out h))⟩
    case rest =>
    obtain ⟨rfl, HE⟩ := hcut
    have R9 := Lib.hid (R8.out.bel HE.out)
    have T9 := Lib.hid (T8.out.bel HE.out)
    have B9 := Lib.hid (B8.out.trans (HE.out.mono B8.out.size))
    have L9 := Lib.hid (L8.out.below HE.out l8)
    have l9 : lb < wc.heap.size := Nat.lt_of_lt_of_le l8 HE.out.size
    clear HE R8 T8 B8 L8 l8 S8 D8
    go_wp2_with (first
      | (refine list_loadD (by rfl) (.tmp 9) rfl d9 rfl ds R9.out ?_)
      | (refine list_loadD (by rfl) (.tmp 4) rfl tb rfl ds T9.out ?_))
    go_roundw
    case rel => exact ⟨A + 1, by omega, by go_num, T9, L9, l9, B9⟩
    case measure => simp [intOf]; omega

namespace digestClimbs
theorem readable : ∀ t ∈ Tryd.f6.params.toList, Tryd.prog.readableRec t = true ∧ t < Tryd.prog.types.size := by
  rw [Tryd.params6]
  intro t ht
  simp only [List.mem_cons, List.not_mem_nil, or_false] at ht
  rcases ht with rfl
  all_goals exact ⟨by kernel_rfl, by decide +kernel⟩

set_option maxRecDepth 100000 in
theorem lifted (os : Os) (started : os.Started) (H : Type) (enc : TypeId × Value → H) :
    ReturnsInHanded {} Tryd.checked os 6 .any (fun w args => (Rows.digestClimbsSpec.pre enc Tryd.prog Tryd.f6 [] false w args ∧ laidMetH Tryd.prog laidK w) ∧ sizedMet enc Tryd.prog Tryd.f6 (OpenSpec.ofChange Rows.digestClimbsSpec) false w args)
      (Rows.digestClimbsSpec.post enc Tryd.prog Tryd.f6 false true false false) := by
  refine returnsInHanded_of_change_and (C := Tryd.checked) (X := fun w _ => laidMetH Tryd.prog laidK w) (fun _ _ _ hh h => h.of_heap hh) own_knob started (by kernel_rfl) Tryd.func6
    (ChangeSpec.witness_shaped (enc := enc) (C := Tryd.checked) (os := os) (X := fun w _ => laidMetH Tryd.prog laidK w) false (World.doorLaid Tryd.prog 400 os) #[.slice none 0 0] 8 rfl (World.shaped_of_RefB (by kernel_rfl) (by kernel_rfl)) (by kernel_rfl) (by kernel_rfl) (by kernel_rfl) (door_met os _)) ?_
  intro W base args ds gs before hval0 hW _ _ hL _
  have hval : ∀ (j : Nat) t v, Tryd.f6.params[j]? = some t → args[j]? = some v → Value.okWide Tryd.prog W .any base t v := hval0
  have hW' := hW
  obtain ⟨p, q, hA0, hV, rfl, hfz, hnd⟩ := hW
  have hA : DataW.TrodAll enc Tryd.prog W 0 (fun _ => true) true Tryd.f6.params.toList args.toList ds p := hA0
  rw [Tryd.params6] at hA hval
  obtain ⟨v0, vs0, d0, ds0, p0, q0, hargs, rfl, rfl, h0, r0⟩ := trodAll_cons hA
  obtain ⟨rfl, rfl, rfl⟩ := trodAll_nil r0
  obtain rfl : args = #[v0] := by cases args; simp_all
  obtain ⟨rfl, rfl⟩ := trodVars_none hV
  obtain ⟨s0, n0, c0, z0, rfl, w0, x0, y0, u0⟩ := open_src Tryd.underlying22 Tryd.underlying5 (by kernel_rfl) (hval 0 22 v0 rfl rfl) h0
  have hK := of_laid hL
  clear hA0 hval0
  refine (digestClimbs_walk s0 n0 c0 z0 W (Lib.hid w0) (Lib.hid x0) (by unfold maxLen at u0; omega) (Lib.hid hK)).mono fun e W' ⟨he, hb⟩ => ?_
  subst he
  exact ⟨_, rfl, law_post laid_out readable rfl rfl Tryd.underlying4 hW' rfl rfl rfl hb⟩

theorem over : Rows.digestClimbsRow.holds Tryd.pinned (OpenSpec.ofChange Rows.digestClimbsSpec) :=
  OpenClaim.holds_of_wide 6 Tryd.f6 rfl rfl rfl rfl rfl rfl rfl ⟨rfl, rfl, rfl, rfl, rfl⟩ rfl rfl rfl rfl rfl (by kernel_rfl) Tryd.func6 (by kernel_rfl)
    (of_decide_eq_true (by kernel_rfl)) (by unfold Func.isWrapper; first | (rw [if_pos (by decide +kernel)]; kernel_rfl) | (rw [if_neg (by decide +kernel)]; exact ⟨rfl, rfl⟩))
    (fun os started H enc _ => lifted os started H enc)

/-- the statement: the tied card -/
theorem proved : Rows.DigestClimbsCardSaid :=
  Claim7.holds_tied_plain_at .later [] [.data] true (true, "3cbd8a75db85d0d7a91da629822e7c026b5a1beeafa1458dde1bbca6aeb395d6") false
    over (fun _ h => by cases h) (by kernel_rfl) (fun _ h => by cases h) digestClimbs_row_tie rfl ⟨rfl, rfl⟩ (by kernel_rfl) rfl
    (fun f fn hf hfn => by
      obtain rfl : f = 6 := Option.some.inj ((show Tryd.prog.funcNamed "franking/frankinglaw02.DigestClimbs" = some 6 by kernel_rfl).symm.trans hf) |>.symm
      obtain rfl : fn = Tryd.f6 := (Option.some.inj (Tryd.func6.symm.trans hfn)).symm
      exact ⟨by kernel_rfl, fun j t ht => by
        rw [Tryd.params6] at ht
        have hm : t ∈ [22] := by simpa using Array.mem_of_getElem? ht
        have hall : ([22].all fun u => !Tryd.prog.wantsStandIn u) = true := by kernel_rfl
        exact (show Tryd.prog.wantsStandIn t = false by simpa using List.all_eq_true.1 hall t hm)⟩)
    (by kernel_rfl)
end digestClimbs
end Go.Proofs.YtmheblpgofeafaaDoor
