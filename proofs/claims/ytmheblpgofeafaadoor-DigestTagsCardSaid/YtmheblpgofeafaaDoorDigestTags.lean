/- For every tag and all bytes, the hash under the tag is the hash of the hash of the tag and the bytes. No condition. -/
import Derived.Test.YtmheblpgofeafaaDoorDigSane
import Derived.Test.YtmheblpgofeafaaDoorDigCard
namespace Go.Proofs.YtmheblpgofeafaaDoor
open Go.ChangeShapes Go.WideShapes Go.ChangeAt Go.RowKit Go.WideElems
set_option linter.unusedVariables false
set_option linter.unusedSimpArgs false

set_option maxRecDepth 100000 in
set_option maxHeartbeats 4000000 in
theorem digestTags_walk (s : ByteArray) (p : Option Addr) (m cap : Nat) (bs : List Int) (w : World) (hz : Hid (SrcW w p m cap bs)) (hr : Hid (∀ z ∈ bs, 0 ≤ z ∧ z ≤ 255)) (hk : Hid (KeysAt w)) :
    Calls Tryd.prog 5 #[.string s, .slice p m cap] w fun e w' => e = .returned (.bool true) ∧ Below w.heap.size w w' := by
  go_enter Tryd.func5, Tryd.ntmps5
  go_wp2_with fail
  refine (dsane_any _ hk).mono ?_; rintro e w1 ⟨rfl, hb⟩
  have B1 := Lib.hid hb; clear hb
  by_cases h1 : s.size ≤ 600
  case neg =>
    go_wp2_with fail
    go_ret
    exact ⟨rfl, B1.out⟩
  by_cases h2 : m ≤ 600
  case neg =>
    go_wp2_with fail
    go_ret
    exact ⟨rfl, B1.out⟩
  obtain ⟨ts, hts⟩ : ∃ ts, IsSha (strL s) ts := ⟨_, ⟨rfl⟩⟩
  obtain ⟨ds, hds⟩ : ∃ ds, IsSha (ts ++ bs) ds := ⟨_, ⟨rfl⟩⟩
  have HTS := Lib.hid hts; have HDS := Lib.hid hds
  have LT : Hid (ts.length = 32) := Lib.hid (by rw [← hts.eq]; exact sha_len _)
  have LD : Hid (ds.length = 32) := Lib.hid (by rw [← hds.eq]; exact sha_len _)
  have RT : Hid (∀ z ∈ ts, 0 ≤ z ∧ z ≤ 255) := Lib.hid (by rw [← hts.eq]; exact sha_rng _)
  have HM := Lib.hid hz.out.len
  clear hts hds
  have kc := run_bytes_of_string (P := Tryd.prog) w1 9 22 5 s Tryd.underlying9 Tryd.underlying22 Tryd.underlying5
  have hcl := grownCap_ge w1 s.size 0 5
  have hcu := grownCap_le_maxLen w1 s.size 0 5 (by unfold maxLen; omega)
  have hml : maxLen ≤ 9223372036854775807 := by decide
  generalize grownCap w1 s.size 0 5 = c1 at kc hcl hcu
  go_wp2_with fail
  refine (sum_any (some ⟨w1.heap.size, 0, none⟩) s.size c1 (strL s) _ (Lib.hid ?e1) (Lib.hid (strL_rng s)) hcl (by omega) (by omega) (Lib.hid ?e5) ts HTS).mono ?_
  case e1 => exact .inl ⟨(strL_len s).symm, .inr ⟨_, 0, rfl, by simp, str_at w1 s c1 _⟩⟩
  case e5 => exact (hk.out.below B1.out).below (bel_alloc1 w1 _).drew
  rintro e w3 ⟨rfl, hb3⟩
  have B3 := Lib.hid (((B1.out.alloc B1.out.size _).drew).trans (hb3.mono (by have := B1.out.size; simp; omega)))
  clear hb3 kc B1 hcl hcu
  have ld_ := LT.out
  have q1_ := size32 ts ld_
  have q2_ := all_oneCell_toArray (bv_one ts)
  have q3_ : (w3.alloc (.cells #[.int .u8 0, .int .u8 0, .int .u8 0, .int .u8 0, .int .u8 0, .int .u8 0, .int .u8 0, .int .u8 0, .int .u8 0, .int .u8 0, .int .u8 0, .int .u8 0, .int .u8 0, .int .u8 0, .int .u8 0, .int .u8 0, .int .u8 0, .int .u8 0, .int .u8 0, .int .u8 0, .int .u8 0, .int .u8 0, .int .u8 0, .int .u8 0, .int .u8 0, .int .u8 0, .int .u8 0, .int .u8 0, .int .u8 0, .int .u8 0, .int .u8 0, .int .u8 0] 26)).there w3.heap.size 0 (bv ts).toArray.size := by have := (zeros32 w3).there; simp only [bv_len, List.length_replicate] at this; simp only [List.size_toArray, bv_len, ld_]; exact this
  clear ld_
  go_upto_region 6 with (refine wpList_store_mid rfl 26 (.tmp 5) (.tmp 18) rfl w3.heap.size 0 (bv ts).toArray rfl rfl q3_ q1_ q2_ ?_)
  generalize hW_ : World.setCells _ _ _ _ = W4
  have A4 := Lib.hid (show Blk W4 w3.heap.size (bv ts).toArray 26 by rw [← hW_]; exact (zeros32 w3).fill (by rw [bv_len, bv_len, List.length_replicate, LT.out]))
  have B4 := Lib.hid (show Below w.heap.size w W4 by rw [← hW_]; exact setCells_below B3.out.size _ _ (B3.out.alloc B3.out.size _))
  clear hW_ q1_ q2_ q3_ B3 
  obtain ⟨ab, hab⟩ : ∃ ab, w3.heap.size = ab := ⟨_, rfl⟩
  rw [hab] at A4 ⊢
  clear hab
  have EQ := eqDig_same ds LD.out
  simp only [Act.put]
  refine wp_region_any (by kernel_rfl) ?_
  change wpAny _ _ _ _ _ _ _ (World.drew _)
  refine wpAny_take (i := 0) (v := .string s) rfl (by kernel_rfl) (by kernel_rfl) (by kernel_rfl) (fun _ _ _ h => h) (Or.inl ⟨by rfl, ?y0⟩) ?_
  case y0 => intro u; rfl
  refine wpAny_take (i := 1) (v := .slice p m cap) rfl (by kernel_rfl) (by kernel_rfl) (by kernel_rfl) (fun _ _ _ h => h) (Or.inl ⟨by rfl, ?y1⟩) ?_
  case y1 => intro u; rfl
  refine wpAny_take (i := 4) (v := .slice (some ⟨ab, 0, none⟩) 32 32) rfl (by kernel_rfl) (by kernel_rfl) (by kernel_rfl) (fun _ _ _ h => h) (Or.inl ⟨by rfl, ?y4⟩) ?_
  case y4 => intro u; go_simp
  refine wpAny_take (i := 6) (v := .slice p m cap) rfl (by kernel_rfl) (by kernel_rfl) (by kernel_rfl) (fun _ _ _ h => h) (Or.inl ⟨by rfl, ?y6⟩) ?_
  case y6 => intro u; rfl
  generalize hWD : W4.drew = WD
  have D4 := Lib.hid (show Blk WD ab (bv ts).toArray 26 by rw [← hWD]; exact A4.out.drew)
  have E4 := Lib.hid (show Below w.heap.size w WD by rw [← hWD]; exact B4.out.drew)
  clear A4 B4 hWD
  refine any_two 2 3 6 _ _ rfl rfl (by kernel_rfl) ?r1 ?r2
  case r1 =>
    simp only [Act.put]
    go_wp2_with fail
    refine (tagged_any s p m cap bs _ (Lib.hid (hz.out.below E4.out)) hr (by omega) (by omega) (Lib.hid (hk.out.below E4.out)) ts ds HTS HDS).mono ?_
    rintro e w5 ⟨rfl, hb_⟩
    have A5 := Lib.hid (D4.out.below hb_ D4.out.lt)
    have B5 := Lib.hid (E4.out.trans (hb_.mono E4.out.size))
    clear hb_ E4 D4
    go_wp2_with fail
    change wpAny _ _ _ _ 6 _ _ _
    refine any_prefix [3] 5 rfl (by decide) (by kernel_rfl) ?_
    simp only [Act.put, List.filterMap_cons, List.filterMap_nil, List.getElem?_cons_succ, List.getElem?_cons_zero]
    go_wp2_with fail
    change wpAny _ _ _ _ 5 _ _ _
    generalize hW_ : World.alloc _ _ = W6
    have OWN := Lib.hid (show Own8 W6 w.heap.size (.slice (some ⟨w5.heap.size, 0, none⟩) 0 0) [] by rw [← hW_]; exact World.ownsRow_made w5 #[] 0 B5.out.size (by decide) rfl)
    have AA := Lib.hid (show Blk W6 _ _ _ by rw [← hW_]; exact A5.out.alloc _)
    have BB := Lib.hid (show Below w.heap.size w W6 by rw [← hW_]; exact B5.out.alloc B5.out.size _)
    clear hW_ A5 B5
    refine any_order [5, 7, 8, 9, 10] rfl (by decide) (by kernel_rfl) ?_
    simp only [Act.put, List.filterMap_cons, List.filterMap_nil, List.getElem?_cons_succ, List.getElem?_cons_zero]
    refine app8 rfl (.tmp 22) (.tmp 23) rfl w.heap.size (.slice (some ⟨w5.heap.size, 0, none⟩) 0 0) [] rfl ?o1 (some ⟨ab, 0, none⟩) 32 32 ts rfl ?o2 ?o3 ?o4 ?_
    case o1 => exact OWN.out
    case o2 => exact ⟨LT.out.symm, .inr ⟨ab, 0, rfl, AA.out.lt, bytes_run AA.out⟩⟩
    case o3 => have := LT.out; simp; omega
    case o4 => exact BB.out.size
    intro v1 u1 ho1 hg1
    have BU := Lib.hid (bel_grown8 BB.out OWN.out hg1 BB.out.size)
    have O1 := Lib.hid ho1
    have SB := Lib.hid (hz.out.below BU.out)
    clear ho1 hg1
    simp only [Act.put]
    refine app8w rfl (.tmp 24) (.tmp 25) rfl w.heap.size v1 ([] ++ ts) rfl O1.out p m cap bs rfl SB.out ?o5 ?o6 ?_
    case o5 => have := LT.out; have := HM.out; simp; omega
    case o6 => exact BU.out.size
    intro v2 u2 ho2 hg2
    have BV := Lib.hid (bel_grown8 BU.out O1.out hg2 BU.out.size)
    obtain ⟨p2, c2, rfl, hs2, hc2, hm2, _⟩ := own8_src ho2
    have S2 := Lib.hid hs2
    have hl2 : ([] ++ ts ++ bs).length = 32 + m := by have := LT.out; have := HM.out; simp; omega
    rw [hl2] at S2 hc2 ⊢
    clear ho2 hg2 hs2 BU O1 SB hl2
    go_wp2_with fail
    refine (sum_any p2 (32 + m) c2 (ts ++ bs) u2 (Lib.hid (.inl S2.out)) (Lib.hid (rng_append RT.out hr.out)) hc2 (by omega) (by omega) (Lib.hid (hk.out.below BV.out)) ds HDS).mono ?_
    rintro e u3 ⟨rfl, hb3⟩
    have BF := Lib.hid (BV.out.trans (hb3.mono BV.out.size))
    clear hb3
    go_wp2_with fail
    go_ret
    exact ⟨rfl, BF.out⟩
  case r2 =>
    simp only [Act.put]
    go_wp2_with fail
    change wpAny _ _ _ _ 6 _ _ _
    generalize hW_ : World.alloc _ _ = W5
    have OWN := Lib.hid (show Own8 W5 w.heap.size (.slice (some ⟨WD.heap.size, 0, none⟩) 0 0) [] by rw [← hW_]; exact World.ownsRow_made WD #[] 0 E4.out.size (by decide) rfl)
    have A5 := Lib.hid (show Blk W5 _ _ _ by rw [← hW_]; exact D4.out.alloc _)
    have B5 := Lib.hid (show Below w.heap.size w W5 by rw [← hW_]; exact E4.out.alloc E4.out.size _)
    clear hW_ D4 E4
    refine any_prefix [2] 5 rfl (by decide) (by kernel_rfl) ?_
    simp only [Act.put, List.filterMap_cons, List.filterMap_nil, List.getElem?_cons_succ, List.getElem?_cons_zero]
    go_wp2_with fail
    refine (tagged_any s p m cap bs W5 (Lib.hid (hz.out.below B5.out)) hr (by omega) (by omega) (Lib.hid (hk.out.below B5.out)) ts ds HTS HDS).mono ?_
    rintro e W6 ⟨rfl, hb_⟩
    have AA := Lib.hid (A5.out.below hb_ A5.out.lt)
    have OWN2 := Lib.hid (own8_below OWN.out hb_)
    have BB := Lib.hid (B5.out.trans (hb_.mono B5.out.size))
    clear hb_ A5 B5 OWN
    go_wp2_with fail
    change wpAny _ _ _ _ 5 _ _ _
    refine any_order [5, 7, 8, 9, 10] rfl (by decide) (by kernel_rfl) ?_
    simp only [Act.put, List.filterMap_cons, List.filterMap_nil, List.getElem?_cons_succ, List.getElem?_cons_zero]
    refine app8 rfl (.tmp 22) (.tmp 23) rfl w.heap.size (.slice (some ⟨WD.heap.size, 0, none⟩) 0 0) [] rfl ?o1 (some ⟨ab, 0, none⟩) 32 32 ts rfl ?o2 ?o3 ?o4 ?_
    case o1 => exact OWN2.out
    case o2 => exact ⟨LT.out.symm, .inr ⟨ab, 0, rfl, AA.out.lt, bytes_run AA.out⟩⟩
    case o3 => have := LT.out; simp; omega
    case o4 => exact BB.out.size
    intro v1 u1 ho1 hg1
    have BU := Lib.hid (bel_grown8 BB.out OWN2.out hg1 BB.out.size)
    have O1 := Lib.hid ho1
    have SB := Lib.hid (hz.out.below BU.out)
    clear ho1 hg1
    simp only [Act.put]
    refine app8w rfl (.tmp 24) (.tmp 25) rfl w.heap.size v1 ([] ++ ts) rfl O1.out p m cap bs rfl SB.out ?o5 ?o6 ?_
    case o5 => have := LT.out; have := HM.out; simp; omega
    case o6 => exact BU.out.size
    intro v2 u2 ho2 hg2
    have BV := Lib.hid (bel_grown8 BU.out O1.out hg2 BU.out.size)
    obtain ⟨p2, c2, rfl, hs2, hc2, hm2, _⟩ := own8_src ho2
    have S2 := Lib.hid hs2
    have hl2 : ([] ++ ts ++ bs).length = 32 + m := by have := LT.out; have := HM.out; simp; omega
    rw [hl2] at S2 hc2 ⊢
    clear ho2 hg2 hs2 BU O1 SB hl2
    go_wp2_with fail
    refine (sum_any p2 (32 + m) c2 (ts ++ bs) u2 (Lib.hid (.inl S2.out)) (Lib.hid (rng_append RT.out hr.out)) hc2 (by omega) (by omega) (Lib.hid (hk.out.below BV.out)) ds HDS).mono ?_
    rintro e u3 ⟨rfl, hb3⟩
    have BF := Lib.hid (BV.out.trans (hb3.mono BV.out.size))
    clear hb3
    go_wp2_with fail
    go_ret
    exact ⟨rfl, BF.out⟩

namespace digestTags
theorem readable : ∀ t ∈ Tryd.f5.params.toList, Tryd.prog.readableRec t = true ∧ t < Tryd.prog.types.size := by
  rw [Tryd.params5]
  intro t ht
  simp only [List.mem_cons, List.not_mem_nil, or_false] at ht
  rcases ht with rfl | rfl
  all_goals exact ⟨by kernel_rfl, by decide +kernel⟩

set_option maxRecDepth 100000 in
theorem lifted (os : Os) (started : os.Started) (H : Type) (enc : TypeId × Value → H) :
    ReturnsInHanded {} Tryd.checked os 5 .any (fun w args => (Rows.digestTagsSpec.pre enc Tryd.prog Tryd.f5 [] false w args ∧ laidMetH Tryd.prog laidK w) ∧ sizedMet enc Tryd.prog Tryd.f5 (OpenSpec.ofChange Rows.digestTagsSpec) false w args)
      (Rows.digestTagsSpec.post enc Tryd.prog Tryd.f5 false true false false) := by
  refine returnsInHanded_of_change_and (C := Tryd.checked) (X := fun w _ => laidMetH Tryd.prog laidK w) (fun _ _ _ hh h => h.of_heap hh) own_knob started (by kernel_rfl) Tryd.func5
    (ChangeSpec.witness_shaped (enc := enc) (C := Tryd.checked) (os := os) (X := fun w _ => laidMetH Tryd.prog laidK w) false (World.doorLaid Tryd.prog 400 os) #[.string ⟨#[]⟩, .slice none 0 0] 8 rfl (World.shaped_of_RefB (by kernel_rfl) (by kernel_rfl)) (by kernel_rfl) (by kernel_rfl) (by kernel_rfl) (door_met os _)) ?_
  intro W base args ds gs before hval0 hW _ _ hL _
  have hval : ∀ (j : Nat) t v, Tryd.f5.params[j]? = some t → args[j]? = some v → Value.okWide Tryd.prog W .any base t v := hval0
  have hW' := hW
  obtain ⟨p, q, hA0, hV, rfl, hfz, hnd⟩ := hW
  have hA : DataW.TrodAll enc Tryd.prog W 0 (fun _ => true) true Tryd.f5.params.toList args.toList ds p := hA0
  rw [Tryd.params5] at hA hval
  obtain ⟨v0, vs0, d0, ds0, p0, q0, hargs, rfl, rfl, h0, r0⟩ := trodAll_cons hA
  obtain ⟨v1, vs1, d1, ds1, p1, q1, rfl, rfl, rfl, h1, r1⟩ := trodAll_cons r0
  obtain ⟨rfl, rfl, rfl⟩ := trodAll_nil r1
  obtain rfl : args = #[v0, v1] := by cases args; simp_all
  obtain ⟨rfl, rfl⟩ := trodVars_none hV
  obtain ⟨a0, rfl, rfl, rfl, w0⟩ := Go.ChangeMaps.open_string Tryd.underlying9 (hval 0 9 v0 rfl rfl) h0
  obtain ⟨s1, n1, c1, z1, rfl, w1, x1, y1, u1⟩ := open_src Tryd.underlying22 Tryd.underlying5 (by kernel_rfl) (hval 1 22 v1 rfl rfl) h1
  have hK := of_laid hL
  clear hA0 hval0
  refine (digestTags_walk a0 s1 n1 c1 z1 W (Lib.hid w1) (Lib.hid x1) (Lib.hid hK)).mono fun e W' ⟨he, hb⟩ => ?_
  subst he
  exact ⟨_, rfl, law_post laid_out readable rfl rfl Tryd.underlying4 hW' rfl rfl rfl hb⟩

theorem over : Rows.digestTagsRow.holds Tryd.pinned (OpenSpec.ofChange Rows.digestTagsSpec) :=
  OpenClaim.holds_of_wide 5 Tryd.f5 rfl rfl rfl rfl rfl rfl rfl ⟨rfl, rfl, rfl, rfl, rfl⟩ rfl rfl rfl rfl rfl (by kernel_rfl) Tryd.func5 (by kernel_rfl)
    (of_decide_eq_true (by kernel_rfl)) (by unfold Func.isWrapper; first | (rw [if_pos (by decide +kernel)]; kernel_rfl) | (rw [if_neg (by decide +kernel)]; exact ⟨rfl, rfl⟩))
    (fun os started H enc _ => lifted os started H enc)

/-- the statement: the tied card -/
theorem proved : Rows.DigestTagsCardSaid :=
  Claim7.holds_tied_plain_at .later [] [.data] true (true, "3cbd8a75db85d0d7a91da629822e7c026b5a1beeafa1458dde1bbca6aeb395d6") false
    over (fun _ h => by cases h) (by kernel_rfl) (fun _ h => by cases h) digestTags_row_tie rfl ⟨rfl, rfl⟩ (by kernel_rfl) rfl
    (fun f fn hf hfn => by
      obtain rfl : f = 5 := Option.some.inj ((show Tryd.prog.funcNamed "franking/frankinglaw02.DigestTags" = some 5 by kernel_rfl).symm.trans hf) |>.symm
      obtain rfl : fn = Tryd.f5 := (Option.some.inj (Tryd.func5.symm.trans hfn)).symm
      exact ⟨by kernel_rfl, fun j t ht => by
        rw [Tryd.params5] at ht
        have hm : t ∈ [9, 22] := by simpa using Array.mem_of_getElem? ht
        have hall : ([9, 22].all fun u => !Tryd.prog.wantsStandIn u) = true := by kernel_rfl
        exact (show Tryd.prog.wantsStandIn t = false by simpa using List.all_eq_true.1 hall t hm)⟩)
    (by kernel_rfl)
end digestTags
end Go.Proofs.YtmheblpgofeafaaDoor
