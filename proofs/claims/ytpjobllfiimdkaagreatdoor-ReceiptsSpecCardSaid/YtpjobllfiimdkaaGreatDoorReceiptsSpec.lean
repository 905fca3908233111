/- For all secrets, words, return addresses and numbers, Make agrees with the reference. No condition. -/
import Derived.Test.YtpjobllfiimdkaaGreatDoorSanZ
import Derived.Test.YtpjobllfiimdkaaGreatDoorRefSZ
import Derived.Test.YtpjobllfiimdkaaGreatDoorOntRfZ
import Derived.Test.YtpjobllfiimdkaaGreatDoorCrdZ
namespace Go.Proofs.YtpjobllfiimdkaaGreatDoor
open Go.ChangeShapes Go.WideShapes Go.ChangeAt Go.RowKit Go.WideElems Go.Shelf
set_option linter.unusedVariables false
set_option linter.unusedSimpArgs false

theorem rc_two' {l k a b E : Int} {zs : List Int} (h : IsRC l k a b zs E) : (E = 160) ∨ (E = 0 ∧ partB l k a b = true) := by
  rcases h with ⟨_, rfl⟩ | ⟨hp, ds, hd, ⟨rfl, rfl⟩ | ⟨_, rfl⟩⟩
  · exact .inl rfl
  · exact .inr ⟨rfl, hp⟩
  · exact .inl rfl
theorem use_both (l k a b : Int) (zs : List Int) (p q r0 r1 r2 : Int) (w : World) (hz : Hid (zs.length = 32)) (hk : Hid (KeysAt w)) (hpr : Hid (-9223372036854775808 ≤ p ∧ p ≤ 9223372036854775807)) (hqr : Hid (-9223372036854775808 ≤ q ∧ q ≤ 9223372036854775807)) (E : Int) (HE : Hid (IsRC l k a b zs E)) : ∃ s0 s1 s2 s3 s4 s5 ue, (Hid (∀ g : World, Below w.heap.size w g → Calls Tryz.prog 17 #[.agg (rtv l k a b zs).toArray, .agg #[.int .i64 p, .int .i64 q], .agg #[.int .i64 r0, .int .i64 r1, .int .i64 r2]] g fun e w' => e = .returned (.tuple #[sealedV s0 s1 s2 s3 s4 s5, .int .i64 ue]) ∧ Below g.heap.size g w')) ∧ (Hid (∀ g : World, Below w.heap.size w g → Calls Tryz.prog 21 #[.agg (rtv l k a b zs).toArray, .agg #[.int .i64 p, .int .i64 q], .agg #[.int .i64 r0, .int .i64 r1, .int .i64 r2]] g fun e w' => e = .returned (.tuple #[sealedV s0 s1 s2 s3 s4 s5, .int .i64 ue]) ∧ Below g.heap.size g w')) := by
  rcases rc_two' HE.out with rfl | ⟨rfl, hp⟩
  · exact ⟨0, 0, 0, 0, 0, 0, 160, Lib.hid fun u hu => ouse_ret l k a b zs p q r0 r1 r2 u hz (Lib.hid (hk.out.below hu)) HE, Lib.hid fun u hu => ruse_ret l k a b zs p q r0 r1 r2 u hz HE⟩
  obtain ⟨_, hke, hea, heb⟩ := partB_iff.1 hp
  cases h1 : wordB p with
  | false =>
    have H1 := Lib.hid h1
    exact ⟨0, 0, 0, 0, 0, 0, 100, Lib.hid fun u hu => ouse_w0 l k a b zs p q r0 r1 r2 u hz (Lib.hid (hk.out.below hu)) HE H1, Lib.hid fun u hu => ruse_w0 l k a b zs p q r0 r1 r2 u hz HE hpr hqr H1⟩
  | true =>
    have H1 := Lib.hid h1
    cases h2 : wordB q with
    | false =>
      have H2 := Lib.hid h2
      exact ⟨0, 0, 0, 0, 0, 0, 100, Lib.hid fun u hu => ouse_w1 l k a b zs p q r0 r1 r2 u hz (Lib.hid (hk.out.below hu)) HE H1 H2, Lib.hid fun u hu => ruse_w1 l k a b zs p q r0 r1 r2 u hz HE hpr hqr H1 H2⟩
    | true =>
      have H2 := Lib.hid h2
      obtain ⟨a0, b0, c0⟩ := isCip k 1 r0
      obtain ⟨a1, b1, c1⟩ := isCip k (elmZ p) r1
      obtain ⟨a2, b2, c2⟩ := isCip k (elmZ q) r2
      have C0 := Lib.hid (show IsCip k (elmZ 1) r0 a0 b0 by rw [elm_1]; exact c0)
      exact ⟨_, _, a1, b1, a2, b2, 0, Lib.hid fun u hu => ouse_ok l k a b zs p q r0 r1 r2 u hz (Lib.hid (hk.out.below hu)) HE H1 H2 (Lib.hid hke) (Lib.hid ⟨by decide, h1, h2⟩) a0 b0 a1 b1 a2 b2 _ _ C0 (Lib.hid c1) (Lib.hid c2) (Lib.hid rfl) (Lib.hid rfl), Lib.hid fun u hu => ruse_ok l k a b zs p q r0 r1 r2 u hz HE hpr hqr H1 H2 a0 b0 a1 b1 a2 b2 _ _ (Lib.hid c0) (Lib.hid c1) (Lib.hid c2) (Lib.hid rfl) (Lib.hid rfl)⟩
set_option maxRecDepth 100000 in
set_option maxHeartbeats 8000000 in
theorem recSpec_core (sec a b c l k x y : Int) (zs : List Int) (r0 r1 r2 : Int) (w : World) (hz : Hid (zs.length = 32)) (hk : Hid (KeysAt w)) (s0v s1v s2v s3v s4v s5v ue : Int) (HM : Hid (∀ g : World, Below w.heap.size w g → Calls Tryz.prog 6 #[.int .i64 sec, .agg #[.int .i64 a, .int .i64 b, .int .i64 c], .agg (rtv l k x y zs).toArray, .agg #[.int .i64 r0, .int .i64 r1, .int .i64 r2]] g fun e w' => e = .returned (.tuple #[sealedV s0v s1v s2v s3v s4v s5v, .int .i64 ue]) ∧ Below g.heap.size g w')) (HR : Hid (∀ g : World, Below w.heap.size w g → Calls Tryz.prog 7 #[.int .i64 sec, .agg #[.int .i64 a, .int .i64 b, .int .i64 c], .agg (rtv l k x y zs).toArray, .agg #[.int .i64 r0, .int .i64 r1, .int .i64 r2]] g fun e w' => e = .returned (.tuple #[sealedV s0v s1v s2v s3v s4v s5v, .int .i64 ue]) ∧ Below g.heap.size g w')) :
    Calls Tryz.prog 3 #[.int .i64 sec, .agg #[.int .i64 a, .int .i64 b, .int .i64 c], .agg (rtv l k x y zs).toArray, .agg #[.int .i64 r0, .int .i64 r1, .int .i64 r2]] w fun r w' => r = .returned (.bool true) ∧ Below w.heap.size w w' := by
  have A0 := Lib.hid (show Blk (World.alloc (World.alloc (World.alloc w (.cells #[.int .i64 a, .int .i64 b, .int .i64 c] 23)) (.cells (rtv l k x y zs).toArray 29)) (.cells #[.int .i64 r0, .int .i64 r1, .int .i64 r2] 22)) (w.heap.size) #[.int .i64 a, .int .i64 b, .int .i64 c] 23 by
    have h := Blk.new w #[.int .i64 a, .int .i64 b, .int .i64 c] 23
    (try simp only [World.size_alloc] at h)
    exact ((h.alloc _).alloc _))
  have X0 := Lib.hid (show RBlk (World.alloc (World.alloc (World.alloc w (.cells #[.int .i64 a, .int .i64 b, .int .i64 c] 23)) (.cells (rtv l k x y zs).toArray 29)) (.cells #[.int .i64 r0, .int .i64 r1, .int .i64 r2] 22)) (w.heap.size + 1) l k x y zs by
    have h := RBlk.box (World.alloc w (.cells #[.int .i64 a, .int .i64 b, .int .i64 c] 23)) l k x y hz.out
    (try simp only [World.size_alloc] at h)
    exact (h.alloc _))
  have R0 := Lib.hid (show Blk (World.alloc (World.alloc (World.alloc w (.cells #[.int .i64 a, .int .i64 b, .int .i64 c] 23)) (.cells (rtv l k x y zs).toArray 29)) (.cells #[.int .i64 r0, .int .i64 r1, .int .i64 r2] 22)) (w.heap.size + 1 + 1) #[.int .i64 r0, .int .i64 r1, .int .i64 r2] 22 by
    have h := Blk.new (World.alloc (World.alloc w (.cells #[.int .i64 a, .int .i64 b, .int .i64 c] 23)) (.cells (rtv l k x y zs).toArray 29)) #[.int .i64 r0, .int .i64 r1, .int .i64 r2] 22
    (try simp only [World.size_alloc] at h)
    exact h)
  have B0 := Lib.hid (show Below w.heap.size w (World.alloc (World.alloc (World.alloc w (.cells #[.int .i64 a, .int .i64 b, .int .i64 c] 23)) (.cells (rtv l k x y zs).toArray 29)) (.cells #[.int .i64 r0, .int .i64 r1, .int .i64 r2] 22)) from ((bel_alloc1 w _).alloc (by simp) _).alloc (by simp; omega) _)
  go_enter Tryz.func3, Tryz.ntmps3
  go_upto_region 1 with fail
  generalize World.alloc (World.alloc (World.alloc w _) _) _ = W0 at A0 X0 R0 B0 ⊢
  go_upto_region 4 with (first
    | (go_at_call 5; refine (sane43_any _ (Lib.hid (hk.out.below B0.out))).mono ?_; rintro r u1 ⟨rfl, hb⟩; have B1 := Lib.hid (bel_trans B0.out hb); have A1 := Lib.hid (A0.out.below hb A0.out.lt); have R1 := Lib.hid (R0.out.below hb R0.out.lt); have X1 := Lib.hid (X0.out.bel hb); have a0 := A1.out.cell 0; have a1 := A1.out.cell 1; have a2 := A1.out.cell 2; have r0c := R1.out.cell 0; have r1c := R1.out.cell 1; have r2c := R1.out.cell 2; clear hb)
    | (refine list_loadR (by rfl) (.tmp 6) rfl (w.heap.size + 1) rfl l k x y zs X1.out ?_)
    | (go_at_call 6; refine (HM.out _ B1.out).mono ?_; rintro r u2 ⟨rfl, hb⟩; have B2 := Lib.hid (bel_trans B1.out hb); have A2 := Lib.hid (A1.out.below hb A1.out.lt); have R2 := Lib.hid (R1.out.below hb R1.out.lt); have X2 := Lib.hid (X1.out.bel hb); clear hb a0 a1 a2 r0c r1c r2c))
  have hb := bel_alloc1 u2 (.cells #[.int .i64 s0v, .int .i64 s1v, .int .i64 s2v, .int .i64 s3v, .int .i64 s4v, .int .i64 s5v] 32)
  have S3 := Lib.hid (Blk.new u2 #[.int .i64 s0v, .int .i64 s1v, .int .i64 s2v, .int .i64 s3v, .int .i64 s4v, .int .i64 s5v] 32)
  generalize World.alloc u2 _ = u3 at hb S3 ⊢
  have B3 := Lib.hid (bel_trans B2.out hb)
  have A3 := Lib.hid (A2.out.below hb A2.out.lt)
  have R3 := Lib.hid (R2.out.below hb R2.out.lt)
  have X3 := Lib.hid (X2.out.bel hb)
  clear hb
  generalize u2.heap.size = sb at S3 ⊢
  have a0 := A3.out.cell 0
  have a1 := A3.out.cell 1
  have a2 := A3.out.cell 2
  have r0c := R3.out.cell 0
  have r1c := R3.out.cell 1
  have r2c := R3.out.cell 2
  go_upto_region 5 with (first
    | (refine list_loadR (by rfl) (.tmp 6) rfl (w.heap.size + 1) rfl l k x y zs X3.out ?_)
    | (go_at_call 7; refine (HR.out _ B3.out).mono ?_; rintro r u4 ⟨rfl, hb⟩; have B4 := Lib.hid (bel_trans B3.out hb); have S4 := Lib.hid (S3.out.below hb S3.out.lt); clear hb a0 a1 a2 r0c r1c r2c))
  have hb := bel_alloc1 u4 (.cells #[.int .i64 s0v, .int .i64 s1v, .int .i64 s2v, .int .i64 s3v, .int .i64 s4v, .int .i64 s5v] 32)
  have T5 := Lib.hid (Blk.new u4 #[.int .i64 s0v, .int .i64 s1v, .int .i64 s2v, .int .i64 s3v, .int .i64 s4v, .int .i64 s5v] 32)
  generalize World.alloc u4 _ = u5 at hb T5 ⊢
  have B5 := Lib.hid (bel_trans B4.out hb)
  have S5 := Lib.hid (S4.out.below hb S4.out.lt)
  clear hb
  generalize u4.heap.size = tb at T5 ⊢
  have g0 := S5.out.cell 0
  have f0 := T5.out.cell 0
  have g1 := S5.out.cell 1
  have f1 := T5.out.cell 1
  have g2 := S5.out.cell 2
  have f2 := T5.out.cell 2
  have g3 := S5.out.cell 3
  have f3 := T5.out.cell 3
  have g4 := S5.out.cell 4
  have f4 := T5.out.cell 4
  have g5 := S5.out.cell 5
  have f5 := T5.out.cell 5
  go_wp2_with fail
  go_ret
  exact ⟨rfl, B5.out⟩
theorem recSpec_walk (sec a b c l k x y : Int) (zs : List Int) (r0 r1 r2 : Int) (w : World) (hz : Hid (zs.length = 32)) (hk : Hid (KeysAt w)) (hok : Hid (∀ q ∈ intsA [a, b, c], q.ok)) :
    Calls Tryz.prog 3 #[.int .i64 sec, .agg #[.int .i64 a, .int .i64 b, .int .i64 c], .agg (rtv l k x y zs).toArray, .agg #[.int .i64 r0, .int .i64 r1, .int .i64 r2]] w fun r w' => r = .returned (.bool true) ∧ Below w.heap.size w w' := by
  have K : ∀ q : World, Below w.heap.size w q → Hid (KeysAt q) := fun q hq => Lib.hid (hk.out.below hq)
  by_cases t0 : sec < 1
  · exact recSpec_core sec a b c l k x y zs r0 r1 r2 w hz hk 0 0 0 0 0 0 110 (Lib.hid fun u hu => recMake_key sec a b c l k x y zs r0 r1 r2 u hz hok (K u hu) (.inl t0)) (Lib.hid fun u hu => rrMake_key0 sec a b c l k x y zs r0 r1 r2 u hz t0)
  by_cases t1 : 1073741789 ≤ sec
  · exact recSpec_core sec a b c l k x y zs r0 r1 r2 w hz hk 0 0 0 0 0 0 110 (Lib.hid fun u hu => recMake_key sec a b c l k x y zs r0 r1 r2 u hz hok (K u hu) (.inr t1)) (Lib.hid fun u hu => rrMake_key1 sec a b c l k x y zs r0 r1 r2 u hz t0 t1)
  obtain ⟨e0, e1, hsig⟩ := isSig sec (ltx a b c)
  have er := hsig.rng
  have w0 : wordB (e0 + 1) = true := by unfold wordB; simp; omega
  have w1 : wordB (e1 + 1) = true := by unfold wordB; simp; omega
  have HS := Lib.hid hsig
  have s0 : 1 ≤ sec := by omega
  have s1 : sec < 1073741789 := by omega
  cases ha : wordB a with
  | false => exact recSpec_core sec a b c l k x y zs r0 r1 r2 w hz hk 0 0 0 0 0 0 430 (Lib.hid fun u hu => recMake_rec sec a b c l k x y zs r0 r1 r2 u hz hok (K u hu) s0 s1 e0 e1 HS (Lib.hid (by simp [ha]))) (Lib.hid fun u hu => rrMake_rec0 sec a b c l k x y zs r0 r1 r2 u hz t0 t1 (Lib.hid ha))
  | true =>
    cases hb : wordB b with
    | false => exact recSpec_core sec a b c l k x y zs r0 r1 r2 w hz hk 0 0 0 0 0 0 430 (Lib.hid fun u hu => recMake_rec sec a b c l k x y zs r0 r1 r2 u hz hok (K u hu) s0 s1 e0 e1 HS (Lib.hid (by simp [hb]))) (Lib.hid fun u hu => rrMake_rec1 sec a b c l k x y zs r0 r1 r2 u hz t0 t1 (Lib.hid ha) (Lib.hid hb))
    | true =>
      cases hc : wordB c with
      | false => exact recSpec_core sec a b c l k x y zs r0 r1 r2 w hz hk 0 0 0 0 0 0 430 (Lib.hid fun u hu => recMake_rec sec a b c l k x y zs r0 r1 r2 u hz hok (K u hu) s0 s1 e0 e1 HS (Lib.hid (by simp [hc]))) (Lib.hid fun u hu => rrMake_rec2 sec a b c l k x y zs r0 r1 r2 u hz t0 t1 (Lib.hid ha) (Lib.hid hb) (Lib.hid hc))
      | true =>
        obtain ⟨E, he⟩ := isRC l k x y zs
        obtain ⟨v0, v1, v2, v3, v4, v5, ue, h1, h2⟩ := use_both l k x y zs (e0 + 1) (e1 + 1) r0 r1 r2 w hz hk (Lib.hid (by omega)) (Lib.hid (by omega)) E (Lib.hid he)
        exact recSpec_core sec a b c l k x y zs r0 r1 r2 w hz hk v0 v1 v2 v3 v4 v5 ue (Lib.hid fun u hu => recMake_use sec a b c l k x y zs r0 r1 r2 u hz hok (K u hu) s0 s1 e0 e1 HS (Lib.hid (by simp [ha, hb, hc])) er.1 er.2 v0 v1 v2 v3 v4 v5 ue (Lib.hid fun g hg => h1.out g (bel_trans hu hg))) (Lib.hid fun u hu => rrMake_use sec a b c l k x y zs r0 r1 r2 u hz t0 t1 (Lib.hid ha) (Lib.hid hb) (Lib.hid hc) hok e0 e1 HS er.1 er.2 v0 v1 v2 v3 v4 v5 ue (Lib.hid fun g hg => h2.out g (bel_trans hu hg)))

namespace receiptsSpec
theorem readable : ∀ t ∈ Tryz.f3.params.toList, Tryz.prog.readableRec t = true ∧ t < Tryz.prog.types.size := by
  rw [Tryz.params3]
  intro t ht
  simp only [List.mem_cons, List.not_mem_nil, or_false] at ht
  rcases ht with rfl | rfl | rfl | rfl
  all_goals exact ⟨by kernel_rfl, by decide +kernel⟩

set_option maxRecDepth 100000 in
theorem lifted (os : Os) (started : os.Started) (H : Type) (enc : TypeId × Value → H) :
    ReturnsInHanded {} Tryz.checked os 3 .any (fun w args => (Rows.receiptsSpecSpec.pre enc Tryz.prog Tryz.f3 [] false w args ∧ laidMetH Tryz.prog laidK w) ∧ sizedMet enc Tryz.prog Tryz.f3 (OpenSpec.ofChange Rows.receiptsSpecSpec) false w args)
      (Rows.receiptsSpecSpec.post enc Tryz.prog Tryz.f3 false true false false) := by
  refine returnsInHanded_of_change_and (C := Tryz.checked) (X := fun w _ => laidMetH Tryz.prog laidK w) (fun _ _ _ hh h => h.of_heap hh) own_knob started (by kernel_rfl) Tryz.func3
    (ChangeSpec.witness_shaped (enc := enc) (C := Tryz.checked) (os := os) (X := fun w _ => laidMetH Tryz.prog laidK w) false (World.doorLaid Tryz.prog 400 os) #[.int .i64 0, .agg #[.int .i64 0, .int .i64 0, .int .i64 0], .agg (rtv 0 0 0 0 (List.replicate 32 0)).toArray, .agg #[.int .i64 0, .int .i64 0, .int .i64 0]] 8 rfl (World.shaped_of_RefB (by kernel_rfl) (by kernel_rfl)) (by kernel_rfl) (by kernel_rfl) (by kernel_rfl) (door_met os _)) ?_
  intro W base args ds gs before hval0 hW _ _ hL _
  have hval : ∀ (j : Nat) t v, Tryz.f3.params[j]? = some t → args[j]? = some v → Value.okWide Tryz.prog W .any base t v := hval0
  have hW' := hW
  obtain ⟨p, q, hA0, hV, rfl, hfz, hnd⟩ := hW
  have hA : DataW.TrodAll enc Tryz.prog W 0 (fun _ => true) true Tryz.f3.params.toList args.toList ds p := hA0
  rw [Tryz.params3] at hA hval
  obtain ⟨v0, vs0, d0, ds0, p0, q0, hargs, rfl, rfl, h0, r0⟩ := trodAll_cons hA
  obtain ⟨v1, vs1, d1, ds1, p1, q1, rfl, rfl, rfl, h1, r1⟩ := trodAll_cons r0
  obtain ⟨v2, vs2, d2, ds2, p2, q2, rfl, rfl, rfl, h2, r2⟩ := trodAll_cons r1
  obtain ⟨v3, vs3, d3, ds3, p3, q3, rfl, rfl, rfl, h3, r3⟩ := trodAll_cons r2
  obtain ⟨rfl, rfl, rfl⟩ := trodAll_nil r3
  obtain rfl : args = #[v0, v1, v2, v3] := by cases args; simp_all
  obtain ⟨rfl, rfl⟩ := trodVars_none hV
  obtain ⟨a0, rfl, rfl, rfl, w0⟩ := open_int Tryz.underlying3 (hval 0 3 v0 rfl rfl) h0
  obtain ⟨a1, b1, c1, rfl, w1, x1, y1⟩ := open_arr3 Tryz.underlying23 Tryz.underlying3 (by kernel_rfl) (by kernel_rfl) (hval 1 23 v1 rfl rfl) h1
  obtain ⟨l2, k2, a2, b2, z2, rfl, w2, x2⟩ := open_ret (hval 2 29 v2 rfl rfl) h2
  obtain ⟨a3, b3, c3, rfl, w3, x3, y3⟩ := open_arr3 Tryz.underlying22 Tryz.underlying3 (by kernel_rfl) (by kernel_rfl) (hval 3 22 v3 rfl rfl) h3
  have hK := of_laid hL
  clear hA0 hval0
  refine (recSpec_walk a0 a1 b1 c1 l2 k2 a2 b2 z2 a3 b3 c3 W (Lib.hid w2) (Lib.hid hK) (Lib.hid (ints3 (bounds_i64 w1) (bounds_i64 x1) (bounds_i64 y1)))).mono fun e W' ⟨he, hb⟩ => ?_
  subst he
  exact ⟨_, rfl, law_post laid_out readable rfl rfl Tryz.underlying4 hW' rfl rfl rfl hb⟩

theorem over : Rows.receiptsSpecRow.holds Tryz.pinned (OpenSpec.ofChange Rows.receiptsSpecSpec) :=
  OpenClaim.holds_of_wide 3 Tryz.f3 rfl rfl rfl rfl rfl rfl rfl ⟨rfl, rfl, rfl, rfl, rfl⟩ rfl rfl rfl rfl rfl (by kernel_rfl) Tryz.func3 (by kernel_rfl)
    (of_decide_eq_true (by kernel_rfl)) (by unfold Func.isWrapper; first | (rw [if_pos (by decide +kernel)]; kernel_rfl) | (rw [if_neg (by decide +kernel)]; exact ⟨rfl, rfl⟩))
    (fun os started H enc _ => lifted os started H enc)

/-- the statement: the tied card -/
theorem proved : Rows.ReceiptsSpecCardSaid :=
  Claim7.holds_tied_plain_at .later [] [.data] true (true, "58b6b481e969e72b720ff011ab0f9cffa635a12db93c1569dbd034029958b849") true
    over (fun _ h => by cases h) (by kernel_rfl) (fun _ h => by cases h) receiptsSpec_row_tie rfl ⟨rfl, rfl⟩ (by kernel_rfl) rfl
    (fun f fn hf hfn => by
      obtain rfl : f = 3 := Option.some.inj ((show Tryz.prog.funcNamed "franking/frankinglaw43.ReceiptsSpec" = some 3 by kernel_rfl).symm.trans hf) |>.symm
      obtain rfl : fn = Tryz.f3 := (Option.some.inj (Tryz.func3.symm.trans hfn)).symm
      exact ⟨by kernel_rfl, fun j t ht => by
        rw [Tryz.params3] at ht
        have hm : t ∈ [3, 23, 29, 22] := by simpa using Array.mem_of_getElem? ht
        have hall : ([3, 23, 29, 22].all fun u => !Tryz.prog.wantsStandIn u) = true := by kernel_rfl
        exact (show Tryz.prog.wantsStandIn t = false by simpa using List.all_eq_true.1 hall t hm)⟩)
    (by kernel_rfl)
end receiptsSpec
end Go.Proofs.YtpjobllfiimdkaaGreatDoor
