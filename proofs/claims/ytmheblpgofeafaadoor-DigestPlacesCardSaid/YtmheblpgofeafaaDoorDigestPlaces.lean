/- For every list and index, the path has as many elements as the index has steps, an index that is not one of the list has none, and climbing with other numbers of elements is refused exactly if no list has this index, or the path would be longer or shorter in it. No condition. -/
import Derived.Test.YtmheblpgofeafaaDoorDigPath
import Derived.Test.YtmheblpgofeafaaDoorDigLSteps
import Derived.Test.YtmheblpgofeafaaDoorDigCard2
namespace Go.Proofs.YtmheblpgofeafaaDoor
open Go.ChangeShapes Go.WideShapes Go.ChangeAt Go.RowKit Go.WideElems
set_option linter.unusedVariables false
set_option linter.unusedSimpArgs false

theorem take_dgP (bs : List Int) : ∀ (n i : Nat), i < n → ((dgs bs n).drop (32 * i)).take 32 = dgOf bs i
  | 0, i, h => by omega
  | n + 1, i, h => by
    have hl := dgs_len bs n
    rcases (by omega : i = n ∨ i < n) with rfl | h1
    · rw [dgs, ← hl, List.drop_left, List.take_of_length_le (by rw [dgOf_len]; omega)]
    · rw [dgs, List.drop_append_of_le_length (by omega), List.take_append_of_le_length (by rw [List.length_drop]; omega)]
      exact take_dgP bs n i h1
set_option maxRecDepth 100000 in
set_option maxHeartbeats 8000000 in
theorem digestPlaces_walk (p : Option Addr) (m cap : Nat) (bs : List Int) (a nn : Int) (w : World) (hz : Hid (SrcW w p m cap bs)) (hr : Hid (∀ z ∈ bs, 0 ≤ z ∧ z ≤ 255)) (hm : m ≤ 9223372036854775807) (hk : Hid (KeysAt w)) :
    Calls Tryd.prog 9 #[.slice p m cap, .int .i64 a, .int .i64 nn] w fun e w' => e = .returned (.bool true) ∧ Below w.heap.size w w' := by
  go_enter Tryd.func9, Tryd.ntmps9
  go_wp2_with fail
  refine (dsane_any w hk).mono ?_; rintro e w1 ⟨rfl, hb⟩
  have B1 := Lib.hid hb; clear hb
  go_wp2_with fail
  refine (digestsOf_any p m cap bs w1 (Lib.hid (hz.out.below B1.out)) hr hm).mono ?_
  rintro e w2 ⟨lb, lcap, rfl, hl1, hl2, hl3, hl4, hl5, hb5⟩
  have B2 := Lib.hid (B1.out.trans (hb5.mono B1.out.size))
  have hLr := Lib.hid (dgs_rng bs (min m 24) (by omega))
  have hLl := Lib.hid (dgs_len bs (min m 24))
  have hLB := Lib.hid hl5
  have hLe : Hid (∀ i, i < min m 24 → ((dgs bs (min m 24)).drop (32 * i)).take 32 = dgOf bs i) := Lib.hid (take_dgP bs (min m 24))
  have hn24 : min m 24 ≤ 24 := by omega
  obtain ⟨n, hn⟩ : ∃ n, min m 24 = n := ⟨_, rfl⟩
  rw [hn] at hLr hLl hLB hLe hn24 hl3 ⊢
  obtain ⟨L, hL⟩ : ∃ L, dgs bs n = L := ⟨_, rfl⟩
  rw [hL] at hLr hLl hLB hLe
  have hml : maxLen ≤ 9223372036854775807 := by decide
  clear hl5 hb5 B1 hn hl1 hL
  have SD : Hid (SrcD w2 (some ⟨lb, 0, none⟩) n lcap L) := Lib.hid ⟨hLl.out, hl3, hl4, .inr ⟨lb, 0, rfl, hl2, hLB.out⟩⟩
  go_wp2_with fail
  by_cases ha : a < 0
  · refine (path_low (some ⟨lb, 0, none⟩) n lcap a w2 ha).mono ?_
    rintro e w' ⟨rfl, rfl⟩
    go_wp2_with fail
    go_ret
    exact ⟨rfl, B2.out⟩
  by_cases hb : (n : Int) ≤ a
  · refine (path_high (some ⟨lb, 0, none⟩) n lcap a w2 ha hb).mono ?_
    rintro e w' ⟨rfl, rfl⟩
    go_wp2_with fail
    go_ret
    exact ⟨rfl, B2.out⟩
  obtain ⟨A, rfl⟩ : ∃ A : Nat, a = A := ⟨a.toNat, by omega⟩
  have hAn : A < n := by omega
  clear ha hb
  obtain ⟨c, ps, hp⟩ := isPath_ex n A L hAn hLl.out
  have HS := Lib.hid hp.steps
  have HP := Lib.hid hp.rng
  have HPL := Lib.hid hp.len
  have hcn := hp.le
  refine (pathTop_any A n c L ps hp hAn (some ⟨lb, 0, none⟩) lcap w2 SD hLr (by omega) (Lib.hid (hk.out.below B2.out))).mono ?_
  rintro e w3 ⟨v, rfl, ho, hb3⟩
  obtain ⟨q, qc, rfl, hsrc, _⟩ := ownR_src ho
  have S3 := Lib.hid hsrc
  have B3 := Lib.hid (B2.out.trans (hb3.mono B2.out.size))
  have L3 := Lib.hid (hLB.out.below hb3 hl2)
  have hl3' : lb < w3.heap.size := Nat.lt_of_lt_of_le hl2 hb3.size
  clear hsrc ho hb3 hp SD hLB B2 hl2
  go_wp2_with fail
  refine (lsteps_any A n c w3 HS hAn (by omega)).mono ?_
  rintro e w' ⟨rfl, rfl⟩
  go_wp2_with fail
  generalize hx : bits _ _ nn 31 = x
  clear hx
  generalize hA : World.alloc _ _ = w4
  have C4 := Lib.hid (show Blk w4 w'.heap.size #[.int .i64 nn, .int .i64 x, .int .i64 ((n : Int) + 1), .int .i64 (2 * (n : Int))] 3 by rw [← hA]; exact Blk.new w' _ _)
  have L4 := Lib.hid (show BytesAt w4 lb 0 L by rw [← hA]; exact L3.out.below (bel_alloc1 _ _) hl3')
  have S4 := Lib.hid (show SrcD w4 q c qc ps by rw [← hA]; exact S3.out.below (bel_alloc1 _ _))
  have B4 := Lib.hid (show Below w.heap.size w w4 by rw [← hA]; exact B3.out.alloc B3.out.size _)
  have hl4' : lb < w4.heap.size := by rw [← hA]; simp; omega
  clear hA L3 S3 B3 hl3'
  obtain ⟨cb, hcb⟩ : ∃ b, w'.heap.size = b := ⟨_, rfl⟩
  rw [hcb] at C4 ⊢
  clear hcb
  obtain ⟨dd, hdd⟩ : ∃ dd, dgOf bs A = dd := ⟨_, rfl⟩
  have HDL : Hid (dd.length = 32) := Lib.hid (by rw [← hdd]; rfl)
  have HDR : Hid (∀ z ∈ dd, 0 ≤ z ∧ z ≤ 255) := Lib.hid (by rw [← hdd]; exact dgOf_rng bs A (by omega))
  have HDE : Hid ((L.drop (32 * A)).take 32 = dd) := Lib.hid (by rw [← hdd]; exact hLe.out A hAn)
  clear hdd hLe
  go_loopw [62] (fun i wr => ∃ (k : Nat), k ≤ 4 ∧ i = .int .i64 k ∧ Hid (Blk wr cb #[.int .i64 nn, .int .i64 x, .int .i64 ((n : Int) + 1), .int .i64 (2 * (n : Int))] 3) ∧ Hid (BytesAt wr lb 0 L) ∧ Hid (SrcD wr q c qc ps) ∧ Hid (Below w.heap.size w wr) ∧ lb < wr.heap.size) (fun i _ => 4 - (intOf i).toNat)
  case atStart => exact ⟨0, by omega, rfl, C4, L4, S4, B4, hl4'⟩
  case round =>
    obtain ⟨k, hk4, rfl, RC, RL, RS, RB, hlt⟩ := hrel
    clear C4 L4 S4 B4 hl4'
    by_cases hkk : k < 4
    · obtain ⟨M, hM⟩ : ∃ M, wr.cell? ⟨cb, k, none⟩ = some (.int .i64 M) := by
        rw [RC.out.cell k]
        rcases (by omega : k = 0 ∨ k = 1 ∨ k = 2 ∨ k = 3) with rfl | rfl | rfl | rfl
        · exact ⟨nn, rfl⟩
        · exact ⟨x, rfl⟩
        · exact ⟨(n : Int) + 1, rfl⟩
        · exact ⟨2 * (n : Int), rfl⟩
      have hDk : Hid (BytesAt wr lb (A * 32) dd) := Lib.hid (by have := (RL.out.drop (32 * A)).take 32; rw [HDE.out, Nat.zero_add, Nat.mul_comm] at this; exact this)
      by_cases m1 : M ≤ (A : Int)
      · obtain ⟨rs, hrs⟩ : ∃ rs, List.replicate 32 (0 : Int) = rs := ⟨_, rfl⟩
        have HRS := Lib.hid hrs
        have HRL : Hid (rs.length = 32) := Lib.hid (by rw [← hrs]; rfl)
        clear hrs
        go_wp2_with (refine list_loadM (by rfl) (.tmp 84) rfl lb (A * 32) rfl dd hDk.out HDL.out ?_)
        refine (climbTop_any A M q c qc ps dd rs 1 wr (.inr ⟨.inr (.inr (.inr (.inl (by omega)))), HRS.out.symm, rfl⟩) RS HP HDL HDR (Lib.hid (hk.out.below RB.out))).mono ?_
        rintro e w5 ⟨rfl, hb5⟩
        have C5 := Lib.hid (RC.out.below hb5 RC.out.lt)
        have L5 := Lib.hid (RL.out.below hb5 hlt)
        have S5 := Lib.hid (RS.out.below hb5)
        have B5 := Lib.hid (RB.out.trans (hb5.mono RB.out.size))
        have l5 : lb < w5.heap.size := Nat.lt_of_lt_of_le hlt hb5.size
        clear hb5 RC RL RS RB hDk
        go_wp2_with (refine list_storeD rfl (.tmp 13) (.tmp 90) rfl w5.heap.size rfl rs rfl HRL.out _ (Dg.new w5) ?_)
        intro w6 d6 k6
        have K6 : Below w5.heap.size w5 w6 := (bel_alloc1 w5 _).trans (k6.below (Nat.le_refl _))
        have C6 := Lib.hid (C5.out.below K6 C5.out.lt)
        have L6 := Lib.hid (L5.out.below K6 l5)
        have S6 := Lib.hid (S5.out.below K6)
        have B6 := Lib.hid (B5.out.trans (K6.mono B5.out.size))
        have l6 : lb < w6.heap.size := Nat.lt_of_lt_of_le l5 K6.size
        clear K6 d6 k6 C5 L5 S5 B5
        go_wp2_with fail
        go_roundw
        case rel => exact ⟨k + 1, by omega, by go_num, C6, L6, S6, B6, l6⟩
        case measure => simp [intOf]; omega
      by_cases m2 : 1099511627776 < M
      · obtain ⟨rs, hrs⟩ : ∃ rs, List.replicate 32 (0 : Int) = rs := ⟨_, rfl⟩
        have HRS := Lib.hid hrs
        have HRL : Hid (rs.length = 32) := Lib.hid (by rw [← hrs]; rfl)
        clear hrs
        go_wp2_with (refine list_loadM (by rfl) (.tmp 84) rfl lb (A * 32) rfl dd hDk.out HDL.out ?_)
        refine (climbTop_any A M q c qc ps dd rs 1 wr (.inr ⟨.inr (.inl (by omega)), HRS.out.symm, rfl⟩) RS HP HDL HDR (Lib.hid (hk.out.below RB.out))).mono ?_
        rintro e w5 ⟨rfl, hb5⟩
        have C5 := Lib.hid (RC.out.below hb5 RC.out.lt)
        have L5 := Lib.hid (RL.out.below hb5 hlt)
        have S5 := Lib.hid (RS.out.below hb5)
        have B5 := Lib.hid (RB.out.trans (hb5.mono RB.out.size))
        have l5 : lb < w5.heap.size := Nat.lt_of_lt_of_le hlt hb5.size
        clear hb5 RC RL RS RB hDk
        go_wp2_with (refine list_storeD rfl (.tmp 13) (.tmp 90) rfl w5.heap.size rfl rs rfl HRL.out _ (Dg.new w5) ?_)
        intro w6 d6 k6
        have K6 : Below w5.heap.size w5 w6 := (bel_alloc1 w5 _).trans (k6.below (Nat.le_refl _))
        have C6 := Lib.hid (C5.out.below K6 C5.out.lt)
        have L6 := Lib.hid (L5.out.below K6 l5)
        have S6 := Lib.hid (S5.out.below K6)
        have B6 := Lib.hid (B5.out.trans (K6.mono B5.out.size))
        have l6 : lb < w6.heap.size := Nat.lt_of_lt_of_le l5 K6.size
        clear K6 d6 k6 C5 L5 S5 B5
        go_wp2_with fail
        go_roundw
        case rel => exact ⟨k + 1, by omega, by go_num, C6, L6, S6, B6, l6⟩
        case measure => simp [intOf]; omega
      obtain ⟨M, rfl⟩ : ∃ M' : Nat, M = M' := ⟨M.toNat, by omega⟩
      obtain ⟨cc, hcs⟩ := isSteps_ex M A
      have HC := Lib.hid hcs
      have hcc0 : cc ≤ M := hcs.le
      clear hcs
      by_cases hcc : c = cc
      · subst hcc
        obtain ⟨rs, hrs⟩ := isClimb_ex HC.out (by omega) ps dd HPL.out
        have HRS := Lib.hid hrs
        have HRL := Lib.hid hrs.len
        clear hrs
        go_wp2_with fail
        refine (lsteps_any A M c wr HC (by omega) (by omega)).mono ?_
        rintro e wr ⟨rfl, rfl⟩
        go_wp2_with (refine list_loadM (by rfl) (.tmp 84) rfl lb (A * 32) rfl dd hDk.out HDL.out ?_)
        refine (climbTop_any A M q c qc ps dd rs 0 wr (.inl ⟨A, M, rfl, rfl, by omega, by omega, HC.out, HRS.out, rfl⟩) RS HP HDL HDR (Lib.hid (hk.out.below RB.out))).mono ?_
        rintro e w5 ⟨rfl, hb5⟩
        have C5 := Lib.hid (RC.out.below hb5 RC.out.lt)
        have L5 := Lib.hid (RL.out.below hb5 hlt)
        have S5 := Lib.hid (RS.out.below hb5)
        have B5 := Lib.hid (RB.out.trans (hb5.mono RB.out.size))
        have l5 : lb < w5.heap.size := Nat.lt_of_lt_of_le hlt hb5.size
        clear hb5 RC RL RS RB hDk
        go_wp2_with (refine list_storeD rfl (.tmp 13) (.tmp 90) rfl w5.heap.size rfl rs rfl HRL.out _ (Dg.new w5) ?_)
        intro w6 d6 k6
        have K6 : Below w5.heap.size w5 w6 := (bel_alloc1 w5 _).trans (k6.below (Nat.le_refl _))
        have C6 := Lib.hid (C5.out.below K6 C5.out.lt)
        have L6 := Lib.hid (L5.out.below K6 l5)
        have S6 := Lib.hid (S5.out.below K6)
        have B6 := Lib.hid (B5.out.trans (K6.mono B5.out.size))
        have l6 : lb < w6.heap.size := Nat.lt_of_lt_of_le l5 K6.size
        clear K6 d6 k6 C5 L5 S5 B5
        go_wp2_with fail
        go_roundw
        case rel => exact ⟨k + 1, by omega, by go_num, C6, L6, S6, B6, l6⟩
        case measure => simp [intOf]; omega
      · obtain ⟨rs, hrs⟩ : ∃ rs, List.replicate 32 (0 : Int) = rs := ⟨_, rfl⟩
        have HRS := Lib.hid hrs
        have HRL : Hid (rs.length = 32) := Lib.hid (by rw [← hrs]; rfl)
        clear hrs
        go_wp2_with fail
        refine (lsteps_any A M cc wr HC (by omega) (by omega)).mono ?_
        rintro e wr ⟨rfl, rfl⟩
        go_wp2_with (refine list_loadM (by rfl) (.tmp 84) rfl lb (A * 32) rfl dd hDk.out HDL.out ?_)
        refine (climbTop_any A M q c qc ps dd rs 1 wr (.inr ⟨.inr (.inr (.inr (.inr ⟨A, M, cc, rfl, rfl, by omega, by omega, HC.out, hcc⟩))), HRS.out.symm, rfl⟩) RS HP HDL HDR (Lib.hid (hk.out.below RB.out))).mono ?_
        rintro e w5 ⟨rfl, hb5⟩
        have C5 := Lib.hid (RC.out.below hb5 RC.out.lt)
        have L5 := Lib.hid (RL.out.below hb5 hlt)
        have S5 := Lib.hid (RS.out.below hb5)
        have B5 := Lib.hid (RB.out.trans (hb5.mono RB.out.size))
        have l5 : lb < w5.heap.size := Nat.lt_of_lt_of_le hlt hb5.size
        clear hb5 RC RL RS RB hDk
        go_wp2_with (refine list_storeD rfl (.tmp 13) (.tmp 90) rfl w5.heap.size rfl rs rfl HRL.out _ (Dg.new w5) ?_)
        intro w6 d6 k6
        have K6 : Below w5.heap.size w5 w6 := (bel_alloc1 w5 _).trans (k6.below (Nat.le_refl _))
        have C6 := Lib.hid (C5.out.below K6 C5.out.lt)
        have L6 := Lib.hid (L5.out.below K6 l5)
        have S6 := Lib.hid (S5.out.below K6)
        have B6 := Lib.hid (B5.out.trans (K6.mono B5.out.size))
        have l6 : lb < w6.heap.size := Nat.lt_of_lt_of_le l5 K6.size
        clear K6 d6 k6 C5 L5 S5 B5
        go_wp2_with fail
        go_roundw
        case rel => exact ⟨k + 1, by omega, by go_num, C6, L6, S6, B6, l6⟩
        case measure => simp [intOf]; omega
    · go_wp2_with fail
      go_ret
      exact ⟨rfl, RB.out⟩

namespace digestPlaces
theorem readable : ∀ t ∈ Tryd.f9.params.toList, Tryd.prog.readableRec t = true ∧ t < Tryd.prog.types.size := by
  rw [Tryd.params9]
  intro t ht
  simp only [List.mem_cons, List.not_mem_nil, or_false] at ht
  rcases ht with rfl | rfl | rfl
  all_goals exact ⟨by kernel_rfl, by decide +kernel⟩

set_option maxRecDepth 100000 in
theorem lifted (os : Os) (started : os.Started) (H : Type) (enc : TypeId × Value → H) :
    ReturnsInHanded {} Tryd.checked os 9 .any (fun w args => (Rows.digestPlacesSpec.pre enc Tryd.prog Tryd.f9 [] false w args ∧ laidMetH Tryd.prog laidK w) ∧ sizedMet enc Tryd.prog Tryd.f9 (OpenSpec.ofChange Rows.digestPlacesSpec) false w args)
      (Rows.digestPlacesSpec.post enc Tryd.prog Tryd.f9 false true false false) := by
  refine returnsInHanded_of_change_and (C := Tryd.checked) (X := fun w _ => laidMetH Tryd.prog laidK w) (fun _ _ _ hh h => h.of_heap hh) own_knob started (by kernel_rfl) Tryd.func9
    (ChangeSpec.witness_shaped (enc := enc) (C := Tryd.checked) (os := os) (X := fun w _ => laidMetH Tryd.prog laidK w) false (World.doorLaid Tryd.prog 400 os) #[.slice none 0 0, .int .i64 0, .int .i64 0] 8 rfl (World.shaped_of_RefB (by kernel_rfl) (by kernel_rfl)) (by kernel_rfl) (by kernel_rfl) (by kernel_rfl) (door_met os _)) ?_
  intro W base args ds gs before hval0 hW _ _ hL _
  have hval : ∀ (j : Nat) t v, Tryd.f9.params[j]? = some t → args[j]? = some v → Value.okWide Tryd.prog W .any base t v := hval0
  have hW' := hW
  obtain ⟨p, q, hA0, hV, rfl, hfz, hnd⟩ := hW
  have hA : DataW.TrodAll enc Tryd.prog W 0 (fun _ => true) true Tryd.f9.params.toList args.toList ds p := hA0
  rw [Tryd.params9] at hA hval
  obtain ⟨v0, vs0, d0, ds0, p0, q0, hargs, rfl, rfl, h0, r0⟩ := trodAll_cons hA
  obtain ⟨v1, vs1, d1, ds1, p1, q1, rfl, rfl, rfl, h1, r1⟩ := trodAll_cons r0
  obtain ⟨v2, vs2, d2, ds2, p2, q2, rfl, rfl, rfl, h2, r2⟩ := trodAll_cons r1
  obtain ⟨rfl, rfl, rfl⟩ := trodAll_nil r2
  obtain rfl : args = #[v0, v1, v2] := by cases args; simp_all
  obtain ⟨rfl, rfl⟩ := trodVars_none hV
  obtain ⟨s0, n0, c0, z0, rfl, w0, x0, y0, u0⟩ := open_src Tryd.underlying22 Tryd.underlying5 (by kernel_rfl) (hval 0 22 v0 rfl rfl) h0
  obtain ⟨a1, rfl, rfl, rfl, w1⟩ := open_int Tryd.underlying3 (hval 1 3 v1 rfl rfl) h1
  obtain ⟨a2, rfl, rfl, rfl, w2⟩ := open_int Tryd.underlying3 (hval 2 3 v2 rfl rfl) h2
  have hK := of_laid hL
  clear hA0 hval0
  refine (digestPlaces_walk s0 n0 c0 z0 a1 a2 W (Lib.hid w0) (Lib.hid x0) (by unfold maxLen at u0; omega) (Lib.hid hK)).mono fun e W' ⟨he, hb⟩ => ?_
  subst he
  exact ⟨_, rfl, law_post laid_out readable rfl rfl Tryd.underlying4 hW' rfl rfl rfl hb⟩

theorem over : Rows.digestPlacesRow.holds Tryd.pinned (OpenSpec.ofChange Rows.digestPlacesSpec) :=
  OpenClaim.holds_of_wide 9 Tryd.f9 rfl rfl rfl rfl rfl rfl rfl ⟨rfl, rfl, rfl, rfl, rfl⟩ rfl rfl rfl rfl rfl (by kernel_rfl) Tryd.func9 (by kernel_rfl)
    (of_decide_eq_true (by kernel_rfl)) (by unfold Func.isWrapper; first | (rw [if_pos (by decide +kernel)]; kernel_rfl) | (rw [if_neg (by decide +kernel)]; exact ⟨rfl, rfl⟩))
    (fun os started H enc _ => lifted os started H enc)

/-- the statement: the tied card -/
theorem proved : Rows.DigestPlacesCardSaid :=
  Claim7.holds_tied_plain_at .later [] [.data] true (true, "3cbd8a75db85d0d7a91da629822e7c026b5a1beeafa1458dde1bbca6aeb395d6") false
    over (fun _ h => by cases h) (by kernel_rfl) (fun _ h => by cases h) digestPlaces_row_tie rfl ⟨rfl, rfl⟩ (by kernel_rfl) rfl
    (fun f fn hf hfn => by
      obtain rfl : f = 9 := Option.some.inj ((show Tryd.prog.funcNamed "franking/frankinglaw02.DigestPlaces" = some 9 by kernel_rfl).symm.trans hf) |>.symm
      obtain rfl : fn = Tryd.f9 := (Option.some.inj (Tryd.func9.symm.trans hfn)).symm
      exact ⟨by kernel_rfl, fun j t ht => by
        rw [Tryd.params9] at ht
        have hm : t ∈ [22, 3, 3] := by simpa using Array.mem_of_getElem? ht
        have hall : ([22, 3, 3].all fun u => !Tryd.prog.wantsStandIn u) = true := by kernel_rfl
        exact (show Tryd.prog.wantsStandIn t = false by simpa using List.all_eq_true.1 hall t hm)⟩)
    (by kernel_rfl)
end digestPlaces
end Go.Proofs.YtmheblpgofeafaaDoor
