/- For all bytes and every tag, Sum and Tagged are what the specification says. No condition. -/
import Derived.Test.YtmheblpgofeafaaDoorDigSane
import Derived.Test.YtmheblpgofeafaaDoorDigSt
import Derived.Test.YtmheblpgofeafaaDoorRefTag
import Derived.Test.YtmheblpgofeafaaDoorDigCard2
import Derived.Deep.OwnRows
namespace Go.Proofs.YtmheblpgofeafaaDoor
open Go.ChangeShapes Go.WideShapes Go.ChangeAt Go.RowKit Go.WideElems
set_option linter.unusedVariables false
set_option linter.unusedSimpArgs false

theorem made8 (n : Nat) : madeCells #[(Value.int .u8 0)] n = (bv (List.replicate n 0)).toArray := by
  apply Array.ext
  · simp [madeCells, bv]
  · intro i h1 h2
    simp [madeCells, bv, Nat.mod_one]
theorem set_rng {zs : List Int} {k : Nat} {x : Int} (h : ∀ z ∈ zs, 0 ≤ z ∧ z ≤ 255) (hx : 0 ≤ x ∧ x ≤ 255) : ∀ z ∈ zs.set k x, 0 ≤ z ∧ z ≤ 255 := by
  intro z hz
  rcases List.mem_or_eq_of_mem_set hz with h1 | rfl
  · exact h z h1
  · exact hx
set_option maxRecDepth 100000 in
set_option maxHeartbeats 8000000 in
theorem digestSumSpec_walk (p : Option Addr) (m cap : Nat) (bs : List Int) (s : ByteArray) (z : Int) (w : World) (hz : Hid (SrcW w p m cap bs)) (hr : Hid (∀ z ∈ bs, 0 ≤ z ∧ z ≤ 255)) (hmc : m ≤ cap) (hcm : cap ≤ maxLen) (hs : s.size ≤ 9223372036854775807) (hz0 : 0 ≤ z) (hz1 : z ≤ 255) (hk : Hid (KeysAt w)) :
    Calls Tryd.prog 3 #[.slice p m cap, .string s, .int .u8 z] w fun e w' => e = .returned (.bool true) ∧ Below w.heap.size w w' := by
  obtain ⟨q, rfl⟩ : ∃ q : Nat, z = q := ⟨z.toNat, by omega⟩
  have hml : maxLen ≤ 9223372036854775807 := by decide
  go_enter Tryd.func3, Tryd.ntmps3
  go_wp2_with fail
  refine (dsane_any w hk).mono ?_; rintro e w1 ⟨rfl, hb⟩
  have B1 := Lib.hid hb; clear hb
  by_cases h1 : m ≤ 300
  case neg =>
    go_wp2_with fail
    go_ret
    exact ⟨rfl, B1.out⟩
  by_cases h2 : s.size ≤ 300
  case neg =>
    go_wp2_with fail
    go_ret
    exact ⟨rfl, B1.out⟩
  have MK : ∀ u : World, (Instr.makeSlice 22 (.int .i64 ((q : Int) + 1)) (.int .i64 ((q : Int) + 1))).run Tryd.prog u = .ok (.slice (some ⟨u.heap.size, 0, none⟩) (q + 1) (q + 1)) (u.alloc (.cells (bv (List.replicate (q + 1) 0)).toArray 5)) := fun u => by
    have := run_make_row' (P := Tryd.prog) 22 5 (.int .u8 0) 1 Tryd.underlying22 info8 rfl .i64 .i64 (q + 1) (by omega) (by omega) u
    rw [made8] at this
    exact this
  go_wp2_with fail
  clear MK
  generalize hA : World.alloc _ _ = w2
  have Z2 := Lib.hid (show Blk w2 w1.heap.size (bv (List.replicate (q + 1) 0)).toArray 5 by rw [← hA]; exact Blk.new w1 _ _)
  have B2 := Lib.hid (show Below w.heap.size w w2 by rw [← hA]; exact B1.out.alloc B1.out.size _)
  have hlw : w.heap.size ≤ w1.heap.size := B1.out.size
  clear hA B1
  obtain ⟨lb, hlb⟩ : ∃ b, w1.heap.size = b := ⟨_, rfl⟩
  rw [hlb] at Z2 hlw ⊢
  clear hlb
  go_loopw [27] (fun i wr => ∃ (k : Nat) (zs : List Int), k ≤ q + 1 ∧ i = .int .i64 k ∧ Hid (Blk wr lb (bv zs).toArray 5) ∧ Hid (zs.length = q + 1) ∧ Hid (∀ z ∈ zs, 0 ≤ z ∧ z ≤ 255) ∧ Hid (Below w.heap.size w wr)) (fun i _ => q + 1 - (intOf i).toNat)
  case atStart => exact ⟨0, _, by omega, rfl, Z2, Lib.hid (by simp), Lib.hid (zero_rng _), B2⟩
  case round =>
    obtain ⟨k, zs, hkq, rfl, RZ, RL, RR, RB⟩ := hrel
    clear Z2 B2
    by_cases hlt : k < q + 1
    · have f1 := RZ.out.cell k
      rw [bv_get zs k (by rw [RL.out]; exact hlt)] at f1
      have f2 := RZ.out.frozen k
      have lbs := RZ.out.lt
      by_cases hm0 : 0 < m
      · obtain ⟨b, off, rfl, hb, hc⟩ : ∃ b off, p = some ⟨b, off, none⟩ ∧ b < w.heap.size ∧ BytesAt w b off bs := by
          rcases hz.out with ⟨_, ⟨_, h0, _⟩ | ⟨b, off, h1, h2, h3⟩⟩ | ⟨_, h0, _⟩
          · omega
          · exact ⟨b, off, h1, h2, h3⟩
          · omega
        have hlen := hz.out.len
        obtain ⟨j, hj, hjm⟩ : ∃ j : Nat, (k : Int) % (m : Int) = (j : Int) ∧ j < m := ⟨k % m, (Int.natCast_emod k m).symm, Nat.mod_lt _ hm0⟩
        obtain ⟨x, hx⟩ : ∃ x, bs.getD j 0 = x := ⟨_, rfl⟩
        have hcell : wr.cell? ⟨b, off + j, none⟩ = some (.int .u8 x) := by rw [(hc.below RB.out hb) j (by omega), hx]
        have hx0 : 0 ≤ x ∧ x ≤ 255 := by rw [← hx]; exact getD_rng hr.out j
        have HX := Lib.hid hx0
        obtain ⟨x0, x1⟩ := hx0
        have hbl : b ≠ lb := by omega
        clear hx hc hlen
        go_wp2_with fail
        clear hj
        go_roundw
        case rel => exact ⟨k + 1, (zs.set k k).set k x, by omega, by go_num, Lib.hid (by rw [← bv_set, ← bv_set]; exact (RZ.out.set k _).set k _), Lib.hid (by simp [RL.out]), Lib.hid (set_rng (set_rng RR.out ⟨by omega, by omega⟩) HX.out), Lib.hid ((RB.out.setCell hlw _).setCell hlw _)⟩
        case measure => simp [intOf]; omega
      · go_wp2_with fail
        go_roundw
        case rel => exact ⟨k + 1, zs.set k k, by omega, by go_num, Lib.hid (by rw [← bv_set]; exact RZ.out.set k _), Lib.hid (by simp [RL.out]), Lib.hid (set_rng RR.out ⟨by omega, by omega⟩), Lib.hid (RB.out.setCell hlw _)⟩
        case measure => simp [intOf]; omega
    · skip
      go_wp2_with fail
      generalize hA : World.alloc _ _ = w3
      have C3 := Lib.hid (show Blk w3 wr.heap.size #[.slice p m cap, .slice (some ⟨lb, 0, none⟩) (q + 1) (q + 1)] 22 by rw [← hA]; exact Blk.new wr _ _)
      have Z3 := Lib.hid (show Blk w3 lb (bv zs).toArray 5 by rw [← hA]; exact RZ.out.alloc _)
      have B3 := Lib.hid (show Below w.heap.size w w3 by rw [← hA]; exact RB.out.alloc RB.out.size _)
      clear hA RZ RB
      obtain ⟨cb, hcb⟩ : ∃ b, wr.heap.size = b := ⟨_, rfl⟩
      rw [hcb] at C3 ⊢
      clear hcb
      go_loopw [10, 53] (fun _ i wr => ∃ (k : Nat), k ≤ 2 ∧ i = .int .i64 k ∧ Hid (Blk wr cb #[.slice p m cap, .slice (some ⟨lb, 0, none⟩) (q + 1) (q + 1)] 22) ∧ Hid (Blk wr lb (bv zs).toArray 5) ∧ Hid (Below w.heap.size w wr)) (fun _ i _ => 2 - (intOf i).toNat)
      case atStart => exact ⟨0, by omega, rfl, C3, Z3, B3⟩
      case round =>
        obtain ⟨k2, hk2, rfl, SC, SZ, SB⟩ := hrel
        clear C3 Z3 B3
        rcases (by omega : k2 = 0 ∨ k2 = 1 ∨ k2 = 2) with rfl | rfl | rfl
        · have f0 : wr.cell? ⟨cb, 0, none⟩ = some (.slice p m cap) := SC.out.cell 0
          obtain ⟨ds, hds⟩ : ∃ ds, IsSha (bs) ds := ⟨_, ⟨rfl⟩⟩
          obtain ⟨ts, hts⟩ : ∃ ts, IsSha (strL s) ts := ⟨_, ⟨rfl⟩⟩
          obtain ⟨es, hes⟩ : ∃ es, IsSha (ts ++ bs) es := ⟨_, ⟨rfl⟩⟩
          have EQ1 := eqDig_same ds (by rw [← hds.eq]; exact sha_len _)
          have EQ2 := eqDig_same es (by rw [← hes.eq]; exact sha_len _)
          have HD := Lib.hid hds
          have HTS := Lib.hid hts
          have HE := Lib.hid hes
          clear hds hts hes
          go_wp2_with fail
          refine (sum_any p m cap (bs) wr (Lib.hid ((hz.out.below SB.out).below (Below.refl _ _))) (Lib.hid hr.out) hmc (by omega) (by omega) (Lib.hid (hk.out.below SB.out)) ds HD).mono ?_
          rintro e u1 ⟨rfl, c1⟩
          have S1 := Lib.hid (SB.out.trans (c1.mono SB.out.size))
          go_wp2_with fail
          refine (rsum_any p m cap (bs) u1 (Lib.hid ((hz.out.below SB.out).below c1)) (Lib.hid hr.out) (by omega) ds HD).mono ?_
          rintro e u2 ⟨rfl, c2⟩
          have S2 := Lib.hid (S1.out.trans (c2.mono S1.out.size))
          have c12 := Lib.hid (c1.trans (c2.mono c1.size))
          go_wp2_with fail
          refine (tagged_any s p m cap (bs) u2 (Lib.hid ((hz.out.below SB.out).below c12.out)) (Lib.hid hr.out) (by omega) (by omega) (Lib.hid (hk.out.below S2.out)) ts es HTS HE).mono ?_
          rintro e u3 ⟨rfl, c3⟩
          have S3 := Lib.hid (S2.out.trans (c3.mono S2.out.size))
          have c13 := Lib.hid (c12.out.trans (c3.mono c12.out.size))
          go_wp2_with fail
          refine (rtagged_any s p m cap (bs) u3 (Lib.hid ((hz.out.below SB.out).below c13.out)) (Lib.hid hr.out) (by omega) (by omega) ts es HTS HE).mono ?_
          rintro e u4 ⟨rfl, c4⟩
          have S4 := Lib.hid (S3.out.trans (c4.mono S3.out.size))
          have c14 := Lib.hid (c13.out.trans (c4.mono c13.out.size))
          have C4 := Lib.hid (SC.out.below c14.out SC.out.lt)
          have Z4 := Lib.hid (SZ.out.below c14.out SZ.out.lt)
          clear c1 c2 c3 c4 c12 c13 c14 S1 S2 S3 SC SZ SB
          go_wp2_with fail
          go_roundw
          case rel => exact ⟨0 + 1, by omega, by go_num, C4, Z4, S4⟩
          case measure => simp [intOf]
        · have f0 : wr.cell? ⟨cb, 1, none⟩ = some (.slice (some ⟨lb, 0, none⟩) (q + 1) (q + 1)) := SC.out.cell 1
          obtain ⟨ds, hds⟩ : ∃ ds, IsSha (zs) ds := ⟨_, ⟨rfl⟩⟩
          obtain ⟨ts, hts⟩ : ∃ ts, IsSha (strL s) ts := ⟨_, ⟨rfl⟩⟩
          obtain ⟨es, hes⟩ : ∃ es, IsSha (ts ++ zs) es := ⟨_, ⟨rfl⟩⟩
          have EQ1 := eqDig_same ds (by rw [← hds.eq]; exact sha_len _)
          have EQ2 := eqDig_same es (by rw [← hes.eq]; exact sha_len _)
          have HD := Lib.hid hds
          have HTS := Lib.hid hts
          have HE := Lib.hid hes
          clear hds hts hes
          go_wp2_with fail
          refine (sum_any (some ⟨lb, 0, none⟩) (q + 1) (q + 1) (zs) wr (Lib.hid (.inl ⟨RL.out.symm, .inr ⟨lb, 0, rfl, (SZ.out.below (Below.refl _ _) SZ.out.lt).lt, bytes_run (SZ.out.below (Below.refl _ _) SZ.out.lt)⟩⟩)) (Lib.hid RR.out) (by omega) (by omega) (by omega) (Lib.hid (hk.out.below SB.out)) ds HD).mono ?_
          rintro e u1 ⟨rfl, c1⟩
          have S1 := Lib.hid (SB.out.trans (c1.mono SB.out.size))
          go_wp2_with fail
          refine (rsum_any (some ⟨lb, 0, none⟩) (q + 1) (q + 1) (zs) u1 (Lib.hid (.inl ⟨RL.out.symm, .inr ⟨lb, 0, rfl, (SZ.out.below c1 SZ.out.lt).lt, bytes_run (SZ.out.below c1 SZ.out.lt)⟩⟩)) (Lib.hid RR.out) (by omega) ds HD).mono ?_
          rintro e u2 ⟨rfl, c2⟩
          have S2 := Lib.hid (S1.out.trans (c2.mono S1.out.size))
          have c12 := Lib.hid (c1.trans (c2.mono c1.size))
          go_wp2_with fail
          refine (tagged_any s (some ⟨lb, 0, none⟩) (q + 1) (q + 1) (zs) u2 (Lib.hid (.inl ⟨RL.out.symm, .inr ⟨lb, 0, rfl, (SZ.out.below c12.out SZ.out.lt).lt, bytes_run (SZ.out.below c12.out SZ.out.lt)⟩⟩)) (Lib.hid RR.out) (by omega) (by omega) (Lib.hid (hk.out.below S2.out)) ts es HTS HE).mono ?_
          rintro e u3 ⟨rfl, c3⟩
          have S3 := Lib.hid (S2.out.trans (c3.mono S2.out.size))
          have c13 := Lib.hid (c12.out.trans (c3.mono c12.out.size))
          go_wp2_with fail
          refine (rtagged_any s (some ⟨lb, 0, none⟩) (q + 1) (q + 1) (zs) u3 (Lib.hid (.inl ⟨RL.out.symm, .inr ⟨lb, 0, rfl, (SZ.out.below c13.out SZ.out.lt).lt, bytes_run (SZ.out.below c13.out SZ.out.lt)⟩⟩)) (Lib.hid RR.out) (by omega) (by omega) ts es HTS HE).mono ?_
          rintro e u4 ⟨rfl, c4⟩
          have S4 := Lib.hid (S3.out.trans (c4.mono S3.out.size))
          have c14 := Lib.hid (c13.out.trans (c4.mono c13.out.size))
          have C4 := Lib.hid (SC.out.below c14.out SC.out.lt)
          have Z4 := Lib.hid (SZ.out.below c14.out SZ.out.lt)
          clear c1 c2 c3 c4 c12 c13 c14 S1 S2 S3 SC SZ SB
          go_wp2_with fail
          go_roundw
          case rel => exact ⟨1 + 1, by omega, by go_num, C4, Z4, S4⟩
          case measure => simp [intOf]
        · go_wp2_with fail
          go_ret
          exact ⟨rfl, SB.out⟩

namespace digestSumSpec
theorem readable : ∀ t ∈ Tryd.f3.params.toList, Tryd.prog.readableRec t = true ∧ t < Tryd.prog.types.size := by
  rw [Tryd.params3]
  intro t ht
  simp only [List.mem_cons, List.not_mem_nil, or_false] at ht
  rcases ht with rfl | rfl | rfl
  all_goals exact ⟨by kernel_rfl, by decide +kernel⟩

set_option maxRecDepth 100000 in
theorem lifted (os : Os) (started : os.Started) (H : Type) (enc : TypeId × Value → H) :
    ReturnsInHanded {} Tryd.checked os 3 .any (fun w args => (Rows.digestSumSpecSpec.pre enc Tryd.prog Tryd.f3 [] false w args ∧ laidMetH Tryd.prog laidK w) ∧ sizedMet enc Tryd.prog Tryd.f3 (OpenSpec.ofChange Rows.digestSumSpecSpec) false w args)
      (Rows.digestSumSpecSpec.post enc Tryd.prog Tryd.f3 false true false false) := by
  refine returnsInHanded_of_change_and (C := Tryd.checked) (X := fun w _ => laidMetH Tryd.prog laidK w) (fun _ _ _ hh h => h.of_heap hh) own_knob started (by kernel_rfl) Tryd.func3
    (ChangeSpec.witness_shaped (enc := enc) (C := Tryd.checked) (os := os) (X := fun w _ => laidMetH Tryd.prog laidK w) false (World.doorLaid Tryd.prog 400 os) #[.slice none 0 0, .string ⟨#[]⟩, .int .u8 0] 8 rfl (World.shaped_of_RefB (by kernel_rfl) (by kernel_rfl)) (by kernel_rfl) (by kernel_rfl) (by kernel_rfl) (door_met os _)) ?_
  intro W base args ds gs before hval0 hW _ _ hL _
  have hval : ∀ (j : Nat) t v, Tryd.f3.params[j]? = some t → args[j]? = some v → Value.okWide Tryd.prog W .any base t v := hval0
  have hW' := hW
  obtain ⟨p, q, hA0, hV, rfl, hfz, hnd⟩ := hW
  have hA : DataW.TrodAll enc Tryd.prog W 0 (fun _ => true) true Tryd.f3.params.toList args.toList ds p := hA0
  rw [Tryd.params3] at hA hval
  obtain ⟨v0, vs0, d0, ds0, p0, q0, hargs, rfl, rfl, h0, r0⟩ := trodAll_cons hA
  obtain ⟨v1, vs1, d1, ds1, p1, q1, rfl, rfl, rfl, h1, r1⟩ := trodAll_cons r0
  obtain ⟨v2, vs2, d2, ds2, p2, q2, rfl, rfl, rfl, h2, r2⟩ := trodAll_cons r1
  obtain ⟨rfl, rfl, rfl⟩ := trodAll_nil r2
  obtain rfl : args = #[v0, v1, v2] := by cases args; simp_all
  obtain ⟨rfl, rfl⟩ := trodVars_none hV
  obtain ⟨s0, n0, c0, z0, rfl, w0, x0, y0, u0⟩ := open_src Tryd.underlying22 Tryd.underlying5 (by kernel_rfl) (hval 0 22 v0 rfl rfl) h0
  obtain ⟨a1, rfl, rfl, rfl, w1⟩ := Go.ChangeMaps.open_string Tryd.underlying9 (hval 1 9 v1 rfl rfl) h1
  obtain ⟨a2, rfl, w2, x2⟩ := open_u8 Tryd.underlying5 (hval 2 5 v2 rfl rfl) h2
  have hK := of_laid hL
  clear hA0 hval0
  refine (digestSumSpec_walk s0 n0 c0 z0 a1 a2 W (Lib.hid w0) (Lib.hid x0) y0 u0 (by unfold maxLen at w1; omega) w2 x2 (Lib.hid hK)).mono fun e W' ⟨he, hb⟩ => ?_
  subst he
  exact ⟨_, rfl, law_post laid_out readable rfl rfl Tryd.underlying4 hW' rfl rfl rfl hb⟩

theorem over : Rows.digestSumSpecRow.holds Tryd.pinned (OpenSpec.ofChange Rows.digestSumSpecSpec) :=
  OpenClaim.holds_of_wide 3 Tryd.f3 rfl rfl rfl rfl rfl rfl rfl ⟨rfl, rfl, rfl, rfl, rfl⟩ rfl rfl rfl rfl rfl (by kernel_rfl) Tryd.func3 (by kernel_rfl)
    (of_decide_eq_true (by kernel_rfl)) (by unfold Func.isWrapper; first | (rw [if_pos (by decide +kernel)]; kernel_rfl) | (rw [if_neg (by decide +kernel)]; exact ⟨rfl, rfl⟩))
    (fun os started H enc _ => lifted os started H enc)

/-- the statement: the tied card -/
theorem proved : Rows.DigestSumSpecCardSaid :=
  Claim7.holds_tied_plain_at .later [] [.data] true (true, "3cbd8a75db85d0d7a91da629822e7c026b5a1beeafa1458dde1bbca6aeb395d6") false
    over (fun _ h => by cases h) (by kernel_rfl) (fun _ h => by cases h) digestSumSpec_row_tie rfl ⟨rfl, rfl⟩ (by kernel_rfl) rfl
    (fun f fn hf hfn => by
      obtain rfl : f = 3 := Option.some.inj ((show Tryd.prog.funcNamed "franking/frankinglaw02.DigestSumSpec" = some 3 by kernel_rfl).symm.trans hf) |>.symm
      obtain rfl : fn = Tryd.f3 := (Option.some.inj (Tryd.func3.symm.trans hfn)).symm
      exact ⟨by kernel_rfl, fun j t ht => by
        rw [Tryd.params3] at ht
        have hm : t ∈ [22, 9, 5] := by simpa using Array.mem_of_getElem? ht
        have hall : ([22, 9, 5].all fun u => !Tryd.prog.wantsStandIn u) = true := by kernel_rfl
        exact (show Tryd.prog.wantsStandIn t = false by simpa using List.all_eq_true.1 hall t hm)⟩)
    (by kernel_rfl)
end digestSumSpec
end Go.Proofs.YtmheblpgofeafaaDoor
