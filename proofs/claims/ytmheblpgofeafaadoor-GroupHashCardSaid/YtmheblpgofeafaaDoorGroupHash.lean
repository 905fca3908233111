/- For every tag and all bytes a hash is what remains of the first eight bytes of the digest, without the highest bit, and lies from 0 to Q - 1. No condition. -/
import Derived.Test.YtmheblpgofeafaaDoorDigHash
import Derived.Test.YtmheblpgofeafaaDoorDigCard
import Derived.Test.YtmheblpgofeafaaDoorGroupSane
namespace Go.Proofs.YtmheblpgofeafaaDoor
open Go.ChangeShapes Go.WideShapes Go.ChangeAt Go.RowKit Go.WideElems
set_option linter.unusedVariables false
set_option linter.unusedSimpArgs false

theorem racc_succ {ys : List Int} {k : Nat} {n y : Int} (hn : n = hacc ys k % 1073741789) (hy : ys.getD k 0 = y) : (n * 256 + y) % 1073741789 = hacc ys (k + 1) % 1073741789 := by
  rw [hn, ← hy]
  show _ = (hacc ys k * 256 + ys.getD k 0) % 1073741789
  omega
theorem low7_n {ds : List Int} {k : Nat} (hk : 0 < k) : (low7 ds).getD k 0 = ds.getD k 0 := by
  unfold low7
  rw [List.getD_eq_getElem?_getD, List.getElem?_set_ne (by omega), ← List.getD_eq_getElem?_getD]

set_option maxRecDepth 100000 in
set_option maxHeartbeats 2000000 in
theorem groupHash_walk (s : ByteArray) (p : Option Addr) (m cap : Nat) (bs : List Int) (w : World) (hz : Hid (SrcW w p m cap bs)) (hr : Hid (∀ z ∈ bs, 0 ≤ z ∧ z ≤ 255)) (hk : Hid (KeysAt w)) :
    Calls Tryd.prog 12 #[.string s, .slice p m cap] w fun e w' => e = .returned (.bool true) ∧ Below w.heap.size w w' := by
  go_enter Tryd.func12, Tryd.ntmps12
  go_wp2_with fail
  refine (gsane_any _).mono ?_; rintro e w1 ⟨rfl, hb⟩
  have B1 := Lib.hid hb; clear hb
  by_cases h1 : m ≤ 2000
  case neg =>
    go_wp2_with fail
    go_ret
    exact ⟨rfl, B1.out⟩
  by_cases h2 : s.size ≤ 200
  case neg =>
    go_wp2_with fail
    go_ret
    exact ⟨rfl, B1.out⟩
  obtain ⟨ts, hts⟩ : ∃ ts, IsSha (strL s) ts := ⟨_, ⟨rfl⟩⟩
  obtain ⟨ds, hds⟩ : ∃ ds, IsSha (ts ++ bs) ds := ⟨_, ⟨rfl⟩⟩
  have HTS := Lib.hid hts; have HDS := Lib.hid hds
  clear hts hds
  have hd32 : ds.length = 32 := by rw [← HDS.out.eq]; exact sha_len _
  have hdr : ∀ z ∈ ds, 0 ≤ z ∧ z ≤ 255 := by rw [← HDS.out.eq]; exact sha_rng _
  have HD32 := Lib.hid hd32; have HDR := Lib.hid hdr
  clear hd32 hdr
  go_wp2_with fail
  refine (hash_any s p m cap bs w1 (Lib.hid (hz.out.below B1.out)) hr (by omega) (by omega) (Lib.hid (hk.out.below B1.out)) ts ds HTS HDS).mono ?_; rintro e w2 ⟨rfl, hb⟩
  have B2 := Lib.hid (bel_trans B1.out hb); clear hb
  obtain ⟨N, hN⟩ : ∃ N, hashZ ds = N := ⟨_, rfl⟩
  have HN := Lib.hid hN
  have hN0 : 0 ≤ N ∧ N < 1073741789 := by rw [← hN]; unfold hashZ; omega
  rw [hN]
  clear hN
  obtain ⟨N0, N1⟩ := hN0
  go_wp2_with fail
  refine (tagged_any s p m cap bs w2 (Lib.hid (hz.out.below B2.out)) hr (by omega) (by omega) (Lib.hid (hk.out.below B2.out)) ts ds HTS HDS).mono ?_; rintro e w3 ⟨rfl, hb⟩
  have B3 := Lib.hid (bel_trans B2.out hb); clear hb B1 B2
  have hd32 := HD32.out
  have hdr := HDR.out
  have q3 := size32 ds hd32
  have q4 : (w3.alloc (.cells #[.int .u8 0, .int .u8 0, .int .u8 0, .int .u8 0, .int .u8 0, .int .u8 0, .int .u8 0, .int .u8 0, .int .u8 0, .int .u8 0, .int .u8 0, .int .u8 0, .int .u8 0, .int .u8 0, .int .u8 0, .int .u8 0, .int .u8 0, .int .u8 0, .int .u8 0, .int .u8 0, .int .u8 0, .int .u8 0, .int .u8 0, .int .u8 0, .int .u8 0, .int .u8 0, .int .u8 0, .int .u8 0, .int .u8 0, .int .u8 0, .int .u8 0, .int .u8 0] 26)).there w3.heap.size 0 (bv ds).toArray.size := by have := (zeros32 w3).there; simp only [bv_len, List.length_replicate] at this; simp only [List.size_toArray, bv_len, hd32]; exact this
  have q5 := all_oneCell_toArray (bv_one ds)
  go_upto_region 7 with (refine wpList_store_mid rfl 26 _ _ rfl w3.heap.size 0 (bv ds).toArray rfl rfl q4 q3 q5 ?_)
  simp only [Act.put]
  generalize hW4 : World.setCells _ _ _ _ = W4
  have A4 := Lib.hid (show Blk W4 w3.heap.size (bv ds).toArray 26 by rw [← hW4]; exact (zeros32 w3).fill (by rw [bv_len, bv_len, hd32, List.length_replicate]))
  have B4 := Lib.hid (show Below w.heap.size w W4 by rw [← hW4]; exact setCells_below B3.out.size _ _ (B3.out.alloc B3.out.size _))
  clear hW4 q3 q4 q5 B3
  obtain ⟨ab, hab⟩ : ∃ ab, w3.heap.size = ab := ⟨_, rfl⟩
  rw [hab] at A4 ⊢
  clear hab
  obtain ⟨d0, hd0⟩ : ∃ y, ds.getD 0 0 = y := ⟨_, rfl⟩
  have e0 := A4.out.cell 0
  rw [bv_get ds 0 (by omega), hd0] at e0
  have r0 := getD_rng hdr 0
  rw [hd0] at r0
  have HY0 := Lib.hid (show (low7 ds).getD 0 0 = d0 % 128 by rw [low7_0 hd32, hd0])
  clear hd0
  obtain ⟨y1, hy1'⟩ : ∃ y, ds.getD 1 0 = y := ⟨_, rfl⟩
  have e1 := A4.out.cell 1
  rw [bv_get ds 1 (by omega), hy1'] at e1
  have r1 := getD_rng hdr 1
  rw [hy1'] at r1
  have hy1 := Lib.hid (show (low7 ds).getD 1 0 = y1 by rw [low7_n (by omega)]; exact hy1')
  clear hy1'
  obtain ⟨y2, hy2'⟩ : ∃ y, ds.getD 2 0 = y := ⟨_, rfl⟩
  have e2 := A4.out.cell 2
  rw [bv_get ds 2 (by omega), hy2'] at e2
  have r2 := getD_rng hdr 2
  rw [hy2'] at r2
  have hy2 := Lib.hid (show (low7 ds).getD 2 0 = y2 by rw [low7_n (by omega)]; exact hy2')
  clear hy2'
  obtain ⟨y3, hy3'⟩ : ∃ y, ds.getD 3 0 = y := ⟨_, rfl⟩
  have e3 := A4.out.cell 3
  rw [bv_get ds 3 (by omega), hy3'] at e3
  have r3 := getD_rng hdr 3
  rw [hy3'] at r3
  have hy3 := Lib.hid (show (low7 ds).getD 3 0 = y3 by rw [low7_n (by omega)]; exact hy3')
  clear hy3'
  obtain ⟨y4, hy4'⟩ : ∃ y, ds.getD 4 0 = y := ⟨_, rfl⟩
  have e4 := A4.out.cell 4
  rw [bv_get ds 4 (by omega), hy4'] at e4
  have r4 := getD_rng hdr 4
  rw [hy4'] at r4
  have hy4 := Lib.hid (show (low7 ds).getD 4 0 = y4 by rw [low7_n (by omega)]; exact hy4')
  clear hy4'
  obtain ⟨y5, hy5'⟩ : ∃ y, ds.getD 5 0 = y := ⟨_, rfl⟩
  have e5 := A4.out.cell 5
  rw [bv_get ds 5 (by omega), hy5'] at e5
  have r5 := getD_rng hdr 5
  rw [hy5'] at r5
  have hy5 := Lib.hid (show (low7 ds).getD 5 0 = y5 by rw [low7_n (by omega)]; exact hy5')
  clear hy5'
  obtain ⟨y6, hy6'⟩ : ∃ y, ds.getD 6 0 = y := ⟨_, rfl⟩
  have e6 := A4.out.cell 6
  rw [bv_get ds 6 (by omega), hy6'] at e6
  have r6 := getD_rng hdr 6
  rw [hy6'] at r6
  have hy6 := Lib.hid (show (low7 ds).getD 6 0 = y6 by rw [low7_n (by omega)]; exact hy6')
  clear hy6'
  obtain ⟨y7, hy7'⟩ : ∃ y, ds.getD 7 0 = y := ⟨_, rfl⟩
  have e7 := A4.out.cell 7
  rw [bv_get ds 7 (by omega), hy7'] at e7
  have r7 := getD_rng hdr 7
  rw [hy7'] at r7
  have hy7 := Lib.hid (show (low7 ds).getD 7 0 = y7 by rw [low7_n (by omega)]; exact hy7')
  clear hy7'
  have HE := Lib.hid (show N = hacc (low7 ds) 8 % 1073741789 by rw [← HN.out]; rfl)
  generalize low7 ds = ys at *
  clear hd32 hdr HN
  go_wp2_with fail
  go_loop [7, 26] (fun x i => ∃ (k : Nat) (n : Int), k ≤ 8 ∧ i = .int .i64 k ∧ x = .int .i64 n ∧ 0 ≤ n ∧ n < 1073741789 ∧ Hid (n = hacc ys k % 1073741789)) (fun _ i => 8 - (intOf i).toNat)
  case atStart => exact ⟨0, 0, by omega, rfl, rfl, by omega, by omega, Lib.hid rfl⟩
  case round =>
    obtain ⟨k, n, hk8, rfl, rfl, n0, n1, hn⟩ := hrel
    by_cases hlt : k < 8
    · rcases (by omega : k = 0 ∨ k = 1 ∨ k = 2 ∨ k = 3 ∨ k = 4 ∨ k = 5 ∨ k = 6 ∨ k = 7) with rfl | rfl | rfl | rfl | rfl | rfl | rfl | rfl
      · go_wp2_with fail
        go_round
        case rel => exact ⟨0 + 1, (n * 256 + d0 % 128) % 1073741789, by omega, rfl, rfl, by omega, by omega, Lib.hid (racc_succ hn.out HY0.out)⟩
        case measure => simp [intOf]
      · go_wp2_with fail
        go_round
        case rel => exact ⟨1 + 1, (n * 256 + y1) % 1073741789, by omega, rfl, rfl, by omega, by omega, Lib.hid (racc_succ hn.out hy1.out)⟩
        case measure => simp [intOf]
      · go_wp2_with fail
        go_round
        case rel => exact ⟨2 + 1, (n * 256 + y2) % 1073741789, by omega, rfl, rfl, by omega, by omega, Lib.hid (racc_succ hn.out hy2.out)⟩
        case measure => simp [intOf]
      · go_wp2_with fail
        go_round
        case rel => exact ⟨3 + 1, (n * 256 + y3) % 1073741789, by omega, rfl, rfl, by omega, by omega, Lib.hid (racc_succ hn.out hy3.out)⟩
        case measure => simp [intOf]
      · go_wp2_with fail
        go_round
        case rel => exact ⟨4 + 1, (n * 256 + y4) % 1073741789, by omega, rfl, rfl, by omega, by omega, Lib.hid (racc_succ hn.out hy4.out)⟩
        case measure => simp [intOf]
      · go_wp2_with fail
        go_round
        case rel => exact ⟨5 + 1, (n * 256 + y5) % 1073741789, by omega, rfl, rfl, by omega, by omega, Lib.hid (racc_succ hn.out hy5.out)⟩
        case measure => simp [intOf]
      · go_wp2_with fail
        go_round
        case rel => exact ⟨6 + 1, (n * 256 + y6) % 1073741789, by omega, rfl, rfl, by omega, by omega, Lib.hid (racc_succ hn.out hy6.out)⟩
        case measure => simp [intOf]
      · go_wp2_with fail
        go_round
        case rel => exact ⟨7 + 1, (n * 256 + y7) % 1073741789, by omega, rfl, rfl, by omega, by omega, Lib.hid (racc_succ hn.out hy7.out)⟩
        case measure => simp [intOf]
    · obtain rfl : k = 8 := by omega
      obtain rfl : n = N := by rw [HE.out, hn.out]
      go_wp2_with fail
      go_ret
      exact ⟨rfl, B4.out⟩

namespace groupHash
theorem readable : ∀ t ∈ Tryd.f12.params.toList, Tryd.prog.readableRec t = true ∧ t < Tryd.prog.types.size := by
  rw [Tryd.params12]
  intro t ht
  simp only [List.mem_cons, List.not_mem_nil, or_false] at ht
  rcases ht with rfl | rfl
  all_goals exact ⟨by kernel_rfl, by decide +kernel⟩

set_option maxRecDepth 100000 in
theorem lifted (os : Os) (started : os.Started) (H : Type) (enc : TypeId × Value → H) :
    ReturnsInHanded {} Tryd.checked os 12 .any (fun w args => (Rows.groupHashSpec.pre enc Tryd.prog Tryd.f12 [] false w args ∧ laidMetH Tryd.prog laidK w) ∧ sizedMet enc Tryd.prog Tryd.f12 (OpenSpec.ofChange Rows.groupHashSpec) false w args)
      (Rows.groupHashSpec.post enc Tryd.prog Tryd.f12 false true false false) := by
  refine returnsInHanded_of_change_and (C := Tryd.checked) (X := fun w _ => laidMetH Tryd.prog laidK w) (fun _ _ _ hh h => h.of_heap hh) own_knob started (by kernel_rfl) Tryd.func12
    (ChangeSpec.witness_shaped (enc := enc) (C := Tryd.checked) (os := os) (X := fun w _ => laidMetH Tryd.prog laidK w) false (World.doorLaid Tryd.prog 400 os) #[.string ⟨#[]⟩, .slice none 0 0] 8 rfl (World.shaped_of_RefB (by kernel_rfl) (by kernel_rfl)) (by kernel_rfl) (by kernel_rfl) (by kernel_rfl) (door_met os _)) ?_
  intro W base args ds gs before hval0 hW _ _ hL _
  have hval : ∀ (j : Nat) t v, Tryd.f12.params[j]? = some t → args[j]? = some v → Value.okWide Tryd.prog W .any base t v := hval0
  have hW' := hW
  obtain ⟨p, q, hA0, hV, rfl, hfz, hnd⟩ := hW
  have hA : DataW.TrodAll enc Tryd.prog W 0 (fun _ => true) true Tryd.f12.params.toList args.toList ds p := hA0
  rw [Tryd.params12] at hA hval
  obtain ⟨v0, vs0, d0, ds0, p0, q0, hargs, rfl, rfl, h0, r0⟩ := trodAll_cons hA
  obtain ⟨v1, vs1, d1, ds1, p1, q1, rfl, rfl, rfl, h1, r1⟩ := trodAll_cons r0
  obtain ⟨rfl, rfl, rfl⟩ := trodAll_nil r1
  obtain rfl : args = #[v0, v1] := by cases args; simp_all
  obtain ⟨rfl, rfl⟩ := trodVars_none hV
  obtain ⟨a0, rfl, rfl, rfl, w0⟩ := Go.ChangeMaps.open_string Tryd.underlying9 (hval 0 9 v0 rfl rfl) h0
  obtain ⟨s1, n1, c1, z1, rfl, w1, x1, y1, u1⟩ := open_src Tryd.underlying22 Tryd.underlying5 (by kernel_rfl) (hval 1 22 v1 rfl rfl) h1
  have hK := of_laid hL
  clear hA0 hval0
  refine (groupHash_walk a0 s1 n1 c1 z1 W (Lib.hid w1) (Lib.hid x1) (Lib.hid hK)).mono fun e W' ⟨he, hb⟩ => ?_
  subst he
  exact ⟨_, rfl, law_post laid_out readable rfl rfl Tryd.underlying4 hW' rfl rfl rfl hb⟩

theorem over : Rows.groupHashRow.holds Tryd.pinned (OpenSpec.ofChange Rows.groupHashSpec) :=
  OpenClaim.holds_of_wide 12 Tryd.f12 rfl rfl rfl rfl rfl rfl rfl ⟨rfl, rfl, rfl, rfl, rfl⟩ rfl rfl rfl rfl rfl (by kernel_rfl) Tryd.func12 (by kernel_rfl)
    (of_decide_eq_true (by kernel_rfl)) (by unfold Func.isWrapper; first | (rw [if_pos (by decide +kernel)]; kernel_rfl) | (rw [if_neg (by decide +kernel)]; exact ⟨rfl, rfl⟩))
    (fun os started H enc _ => lifted os started H enc)

/-- the statement: the tied card -/
theorem proved : Rows.GroupHashCardSaid :=
  Claim7.holds_tied_plain_at .later [] [.data] true (true, "3cbd8a75db85d0d7a91da629822e7c026b5a1beeafa1458dde1bbca6aeb395d6") false
    over (fun _ h => by cases h) (by kernel_rfl) (fun _ h => by cases h) groupHash_row_tie rfl ⟨rfl, rfl⟩ (by kernel_rfl) rfl
    (fun f fn hf hfn => by
      obtain rfl : f = 12 := Option.some.inj ((show Tryd.prog.funcNamed "franking/frankinglaw09.GroupHash" = some 12 by kernel_rfl).symm.trans hf) |>.symm
      obtain rfl : fn = Tryd.f12 := (Option.some.inj (Tryd.func12.symm.trans hfn)).symm
      exact ⟨by kernel_rfl, fun j t ht => by
        rw [Tryd.params12] at ht
        have hm : t ∈ [9, 22] := by simpa using Array.mem_of_getElem? ht
        have hall : ([9, 22].all fun u => !Tryd.prog.wantsStandIn u) = true := by kernel_rfl
        exact (show Tryd.prog.wantsStandIn t = false by simpa using List.all_eq_true.1 hall t hm)⟩)
    (by kernel_rfl)
end groupHash
end Go.Proofs.YtmheblpgofeafaaDoor
