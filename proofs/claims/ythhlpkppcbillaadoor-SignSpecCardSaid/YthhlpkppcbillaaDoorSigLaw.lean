/- What the laws of package sign share; the chapter's examples. -/
import Derived.Test.YthhlpkppcbillaaDoorSigSign
import Derived.Laws.StructEq
import Derived.ChangeKeysEq
import Derived.Lib.SlBytesConst
import Derived.Lib.SmallJoins
namespace Go.Proofs.YthhlpkppcbillaaDoor
open Go.RowKit Go.Shelf
set_option linter.unusedVariables false
set_option linter.unusedSimpArgs false

set_option maxRecDepth 100000 in
set_option maxHeartbeats 1000000 in
theorem eqSig (a b x y : Int) (w : World) : (Op.equalIn 10000 24 (.agg #[.int .i64 a, .int .i64 b]) (.agg #[.int .i64 x, .int .i64 y])).run Tryd.prog w = .ok (a == x && b == y) w := by
  have hS : Tryd.prog.underlying 24 = some (.struct (Tryd.prog.fieldsOf 24)) := by kernel_rfl
  have hp : Tryd.prog.stoodInHeld 24 = false := by kernel_rfl
  have hint : Tryd.prog.underlying 3 = some (.int .i64) := by kernel_rfl
  obtain ⟨f0, f1, hF, n0, n1, t0, t1, o0, o1⟩ : ∃ f0 f1 : Field, Tryd.prog.fieldsOf 24 = #[f0, f1] ∧ f0.name ≠ "_" ∧ f1.name ≠ "_" ∧ f0.type = 3 ∧ f1.type = 3 ∧ f0.offset = 0 ∧ f1.offset = 1 :=
    ⟨_, _, rfl, by decide, by decide, rfl, rfl, rfl, rfl⟩
  have e : ∀ (a b : Int) (w : World), (Op.equalIn 9999 3 (.int .i64 a) (.int .i64 b)).run Tryd.prog w = .ok (a == b) w := fun a b w => run_equalIn_int w 9998 _ _ _ a b hint
  have p0 : ∀ (u v : Int) (w : World), (part 3 #[.int .i64 u, .int .i64 v] 0).run Tryd.prog w = .ok (.int .i64 u) w := fun _ _ _ => by kernel_rfl
  have p1 : ∀ (u v : Int) (w : World), (part 3 #[.int .i64 u, .int .i64 v] 1).run Tryd.prog w = .ok (.int .i64 v) w := fun _ _ _ => by kernel_rfl
  rw [show (10000 : Nat) = 9999 + 1 from rfl, run_equalIn_struct w 9999 _ _ _ hS hp, hF]
  simp only [Op.eqFields, n0, n1, t0, t1, o0, o1, ne_eq, not_false_eq_true, if_true, Sem.run_bind, p0, p1, e, Result.andThen_ok]
  by_cases h1 : a = x <;> by_cases h2 : b = y <;> simp [h1, h2, p0, p1, e]
theorem verify_is (key e s : Int) (p : Option Addr) (m c : Nat) (bs : List Int) (w : World) (hs : Hid (txOk bs)) (hz : Hid (SrcW w p m c bs)) (hk : Hid (KeysAt w)) (v : Bool) (hv : Hid (IsVer key bs e s v)) :
    Calls Tryd.prog 14 #[.int .i64 key, .slice p m c, .agg #[.int .i64 e, .int .i64 s]] w fun r w' => r = .returned (.bool v) ∧ Below w.heap.size w w' := by
  obtain ⟨h, h1, h2⟩ := hv.out
  cases hb : (elB key && inQ e && inQ s) with
  | false =>
    rw [hb] at h2
    subst h2
    exact verify_no key e s p m c w (Lib.hid hb)
  | true =>
    rw [hb, Bool.true_and] at h2
    subst h2
    simp only [Bool.and_eq_true] at hb
    exact verify_yes key e s p m c bs w (Lib.hid hb.1.1) hb.1.2 hb.2 hs hz hk h (Lib.hid h1)
theorem srcW_set {W : World} {b0 off m c b o : Nat} {zs : List Int} {v : Value} (h : SrcW W (some ⟨b0, off, none⟩) m c zs) (hne : b0 ≠ b) : SrcW (W.setCell ⟨b, o, none⟩ v) (some ⟨b0, off, none⟩) m c zs := by
  rcases h with ⟨h1, ⟨h2, _⟩ | ⟨b', off', h2, h3, h4⟩⟩ | h
  · cases h2
  · cases h2
    exact .inl ⟨h1, .inr ⟨b0, off, rfl, by simpa using h3, fun j hj => (World.cell?_of_block (a := ⟨b0, off + j, none⟩) (Below.heap_setCell W ⟨b, o, none⟩ v b0 hne)).trans (h4 j hj)⟩⟩
  · exact .inr h
theorem c_pow5 : powZ 4 5 = 1024 := by unfold powZ; rw [elB_4]; rfl
theorem c_powQ1 : powZ 4 1073741788 = 536870895 := by
  rw [← c_pow3]
  apply powZ_congr
  decide
def letterL : List Int := [108, 101, 116, 116, 101, 114]
theorem letter_ok : txOk letterL := ⟨by decide, by decide⟩
theorem nil_ok : txOk [] := ⟨by decide, by decide⟩
theorem nil_src (w : World) : SrcW w none 0 0 [] := .inl ⟨rfl, .inl ⟨rfl, rfl, rfl⟩⟩
set_option maxRecDepth 100000 in
set_option maxHeartbeats 4000000 in
theorem sane_any (w : World) (hk : Hid (KeysAt w)) : Calls Tryd.prog 11 #[] w fun r w' => r = .returned (.bool true) ∧ Below w.heap.size w w' := by
  obtain ⟨e, s, hsig⟩ := isSig 5 letterL
  obtain ⟨e2, s2, hsig2⟩ := isSig 1073741788 []
  have v1 := hsig.ver
  rw [c_pow5] at v1
  have v2 := hsig2.ver
  rw [c_powQ1] at v2
  have r1 := hsig.rng
  have n1 : IsVer 2 letterL e s false := .no (by rw [elB_2]; rfl)
  have n2 : IsVer 1024 letterL e (s + 1073741789) false := .no (by
    have : inQ (s + 1073741789) = false := by unfold inQ; simp; omega
    rw [this, Bool.and_false])
  have n3 : IsVer 0 [] e2 s2 false := .no (by rw [elB_0]; rfl)
  have HS1 := Lib.hid hsig; have HS2 := Lib.hid hsig2; have HV1 := Lib.hid v1; have HV2 := Lib.hid v2; have HN1 := Lib.hid n1; have HN2 := Lib.hid n2; have HN3 := Lib.hid n3
  have HLO := Lib.hid letter_ok; have HNO := Lib.hid nil_ok
  obtain ⟨⟨e0, e1⟩, ⟨s0, s1⟩⟩ := r1
  clear hsig hsig2 v1 v2 n1 n2 n3
  have heq := eqSig e s e s
  simp only [BEq.rfl, Bool.and_self] at heq
  go_enter Tryd.func11, Tryd.ntmps11
  have kc := Lib.run_convert_bytes_const (P := Tryd.prog) w 22 5 #[.int .u8 108, .int .u8 101, .int .u8 116, .int .u8 116, .int .u8 101, .int .u8 114] 6 6 Tryd.underlying22 Tryd.underlying5
  simp only [show (#[.int .u8 108, .int .u8 101, .int .u8 116, .int .u8 116, .int .u8 101, .int .u8 114] : Array Value).size = 6 from rfl] at kc
  go_upto_region 2 with (fail)
  clear kc
  generalize hW0 : World.alloc w _ = W0
  have B0 := Lib.hid (show Below w.heap.size w W0 by rw [← hW0]; exact bel_alloc1 w _)
  have Z0 := Lib.hid (show SrcW W0 (some ⟨w.heap.size, 0, none⟩) 6 6 letterL by
    rw [← hW0]
    refine .inl ⟨rfl, .inr ⟨w.heap.size, 0, rfl, by simp, fun j hj => ?_⟩⟩
    have hj6 : j < 6 := hj
    rw [Nat.zero_add, World.cell?_alloc_mark]
    rcases (by omega : j = 0 ∨ j = 1 ∨ j = 2 ∨ j = 3 ∨ j = 4 ∨ j = 5) with rfl | rfl | rfl | rfl | rfl | rfl <;> rfl)
  have y0 : w.heap.size < W0.heap.size := by rw [← hW0]; simp
  clear hW0
  go_upto_region 3 with (go_at_call 12; refine (sign_yes 5 (some ⟨w.heap.size, 0, none⟩) 6 6 letterL W0 (by omega) (by omega) HLO Z0 (Lib.hid (hk.out.below B0.out)) e s HS1).mono ?_; rintro r u1 ⟨rfl, hb1⟩)
  have A1 := Lib.hid (Blk.new u1 #[.int .i64 e, .int .i64 s] 24)
  have B1 := Lib.hid (show Below w.heap.size w (u1.alloc (.cells #[.int .i64 e, .int .i64 s] 24)) from (bel_trans B0.out hb1).alloc (Nat.le_trans B0.out.size hb1.size) _)
  have hc1 : Below W0.heap.size W0 (u1.alloc (.cells #[.int .i64 e, .int .i64 s] 24)) := hb1.alloc hb1.size _
  have Z1 := Lib.hid (Z0.out.below hc1)
  have y1 : w.heap.size < (u1.alloc (.cells #[.int .i64 e, .int .i64 s] 24)).heap.size := Nat.lt_of_lt_of_le y0 hc1.size
  clear hb1 hc1 Z0 B0 y0
  generalize World.alloc u1 _ = W1 at *
  obtain ⟨b1, hbb1⟩ : ∃ b, u1.heap.size = b := ⟨_, rfl⟩
  rw [hbb1] at A1 ⊢
  clear hbb1
  go_upto_region 4 with (go_at_call 12; refine (sign_yes 5 (some ⟨w.heap.size, 0, none⟩) 6 6 letterL W1 (by omega) (by omega) HLO Z1 (Lib.hid (hk.out.below B1.out)) e s HS1).mono ?_; rintro r u2 ⟨rfl, hb2⟩)
  have A2 := Lib.hid (Blk.new u2 #[.int .i64 e, .int .i64 s] 24)
  have B2 := Lib.hid (show Below w.heap.size w (u2.alloc (.cells #[.int .i64 e, .int .i64 s] 24)) from (bel_trans B1.out hb2).alloc (Nat.le_trans B1.out.size hb2.size) _)
  have hc2 : Below W1.heap.size W1 (u2.alloc (.cells #[.int .i64 e, .int .i64 s] 24)) := hb2.alloc hb2.size _
  have Z2 := Lib.hid (Z1.out.below hc2)
  replace A1 := Lib.hid (A1.out.below hc2 A1.out.lt)
  have y2 : w.heap.size < (u2.alloc (.cells #[.int .i64 e, .int .i64 s] 24)).heap.size := Nat.lt_of_lt_of_le y1 hc2.size
  clear hb2 hc2 Z1 B1 y1
  generalize World.alloc u2 _ = W2 at *
  obtain ⟨b2, hbb2⟩ : ∃ b, u2.heap.size = b := ⟨_, rfl⟩
  rw [hbb2] at A2 ⊢
  clear hbb2
  go_upto_region 5 with (go_at_call 12; refine (sign_no 0 (some ⟨w.heap.size, 0, none⟩) 6 6 W2 (by omega)).mono ?_; rintro r u3 ⟨rfl, hb3⟩)
  have A3 := Lib.hid (Blk.new u3 #[.int .i64 0, .int .i64 0] 24)
  have B3 := Lib.hid (show Below w.heap.size w (u3.alloc (.cells #[.int .i64 0, .int .i64 0] 24)) from (bel_trans B2.out hb3).alloc (Nat.le_trans B2.out.size hb3.size) _)
  have hc3 : Below W2.heap.size W2 (u3.alloc (.cells #[.int .i64 0, .int .i64 0] 24)) := hb3.alloc hb3.size _
  have Z3 := Lib.hid (Z2.out.below hc3)
  replace A1 := Lib.hid (A1.out.below hc3 A1.out.lt)
  replace A2 := Lib.hid (A2.out.below hc3 A2.out.lt)
  have y3 : w.heap.size < (u3.alloc (.cells #[.int .i64 0, .int .i64 0] 24)).heap.size := Nat.lt_of_lt_of_le y2 hc3.size
  clear hb3 hc3 Z2 B2 y2
  generalize World.alloc u3 _ = W3 at *
  obtain ⟨b3, hbb3⟩ : ∃ b, u3.heap.size = b := ⟨_, rfl⟩
  rw [hbb3] at A3 ⊢
  clear hbb3
  go_upto_region 6 with (go_at_call 12; refine (sign_no 1073741789 (some ⟨w.heap.size, 0, none⟩) 6 6 W3 (by omega)).mono ?_; rintro r u4 ⟨rfl, hb4⟩)
  have A4 := Lib.hid (Blk.new u4 #[.int .i64 0, .int .i64 0] 24)
  have B4 := Lib.hid (show Below w.heap.size w (u4.alloc (.cells #[.int .i64 0, .int .i64 0] 24)) from (bel_trans B3.out hb4).alloc (Nat.le_trans B3.out.size hb4.size) _)
  have hc4 : Below W3.heap.size W3 (u4.alloc (.cells #[.int .i64 0, .int .i64 0] 24)) := hb4.alloc hb4.size _
  have Z4 := Lib.hid (Z3.out.below hc4)
  replace A1 := Lib.hid (A1.out.below hc4 A1.out.lt)
  replace A2 := Lib.hid (A2.out.below hc4 A2.out.lt)
  replace A3 := Lib.hid (A3.out.below hc4 A3.out.lt)
  have y4 : w.heap.size < (u4.alloc (.cells #[.int .i64 0, .int .i64 0] 24)).heap.size := Nat.lt_of_lt_of_le y3 hc4.size
  clear hb4 hc4 Z3 B3 y3
  generalize World.alloc u4 _ = W4 at *
  obtain ⟨b4, hbb4⟩ : ∃ b, u4.heap.size = b := ⟨_, rfl⟩
  rw [hbb4] at A4 ⊢
  clear hbb4
  go_upto_region 7 with (go_at_call 12; refine (sign_yes 1073741788 none 0 0 [] W4 (by omega) (by omega) HNO (Lib.hid (nil_src _)) (Lib.hid (hk.out.below B4.out)) e2 s2 HS2).mono ?_; rintro r u5 ⟨rfl, hb5⟩)
  have A5 := Lib.hid (Blk.new u5 #[.int .i64 e2, .int .i64 s2] 24)
  have B5 := Lib.hid (show Below w.heap.size w (u5.alloc (.cells #[.int .i64 e2, .int .i64 s2] 24)) from (bel_trans B4.out hb5).alloc (Nat.le_trans B4.out.size hb5.size) _)
  have hc5 : Below W4.heap.size W4 (u5.alloc (.cells #[.int .i64 e2, .int .i64 s2] 24)) := hb5.alloc hb5.size _
  have Z5 := Lib.hid (Z4.out.below hc5)
  replace A1 := Lib.hid (A1.out.below hc5 A1.out.lt)
  replace A2 := Lib.hid (A2.out.below hc5 A2.out.lt)
  have y5 : w.heap.size < (u5.alloc (.cells #[.int .i64 e2, .int .i64 s2] 24)).heap.size := Nat.lt_of_lt_of_le y4 hc5.size
  clear hb5 hc5 Z4 B4 y4
  generalize World.alloc u5 _ = W5 at *
  obtain ⟨b5, hbb5⟩ : ∃ b, u5.heap.size = b := ⟨_, rfl⟩
  rw [hbb5] at A5 ⊢
  clear hbb5
  have c10 := A1.out.cell 0
  have c11 := A1.out.cell 1
  have c20 := A2.out.cell 0
  have c21 := A2.out.cell 1
  go_upto_region 9 with (fail)
  clear c20 c21 heq A2
  go_upto_region 10 with (fail)
  clear c10 c11
  have l1 := A1.out.lt
  have l5 := A5.out.lt
  have w6 := B5.out.size
  have A6 := Lib.hid (Blk.new W5 #[.int .i64 e, .int .i64 s] 24)
  have hc6 : Below W5.heap.size W5 (W5.alloc (.cells #[.int .i64 e, .int .i64 s] 24)) := bel_alloc1 W5 _
  replace A1 := Lib.hid (A1.out.below hc6 l1)
  replace A5 := Lib.hid (A5.out.below hc6 l5)
  replace Z5 := Lib.hid (Z5.out.below hc6)
  replace B5 := Lib.hid (bel_trans B5.out hc6)
  clear hc6
  generalize World.alloc W5 _ = W6 at *
  obtain ⟨b6, hb6⟩ : ∃ b, W5.heap.size = b := ⟨_, rfl⟩
  rw [hb6] at A6 l1 l5 y5 w6 ⊢
  clear hb6
  have c10 := A1.out.cell 0
  have c11 := A1.out.cell 1
  have c61 := A6.out.cell 1
  have f61 := A6.out.frozen 1
  go_upto_region 11 with (fail)
  generalize hW7 : World.setCell W6 _ _ = W7
  have A1' := Lib.hid (show Blk W7 b1 #[.int .i64 e, .int .i64 s] 24 by rw [← hW7]; exact A1.out.other _ _ (by omega))
  have A5' := Lib.hid (show Blk W7 b5 #[.int .i64 e2, .int .i64 s2] 24 by rw [← hW7]; exact A5.out.other _ _ (by omega))
  have A6' := Lib.hid (show Blk W7 b6 #[.int .i64 e, .int .i64 (s + 1073741789)] 24 by rw [← hW7]; exact A6.out.set 1 _)
  have Z7 := Lib.hid (show SrcW W7 (some ⟨w.heap.size, 0, none⟩) 6 6 letterL by rw [← hW7]; exact srcW_set Z5.out (by omega))
  have B7 := Lib.hid (show Below w.heap.size w W7 by rw [← hW7]; exact B5.out.setCell (p := ⟨b6, 1, none⟩) w6 _)
  clear hW7 c10 c11 c61 f61 A1 A5 A6 Z5 B5 l1 l5 y5 w6
  have d10 := A1'.out.cell 0
  have d11 := A1'.out.cell 1
  go_wp2_with (first
    | (go_at_call 14; ((with_reducible refine (verify_is 1024 e s _ 6 6 letterL W7 HLO Z7 (Lib.hid (hk.out.below B7.out)) true HV1).mono ?_); rintro r u7 ⟨rfl, hb7⟩; have B8 := Lib.hid (bel_trans B7.out hb7); have Z8 := Lib.hid (Z7.out.below hb7); have A18 := A1'.out.below hb7 A1'.out.lt; have A58 := Lib.hid (A5'.out.below hb7 A5'.out.lt); have A68 := Lib.hid (A6'.out.below hb7 A6'.out.lt); clear hb7; replace d10 := A18.cell 0; replace d11 := A18.cell 1))
    | (go_at_call 14; ((with_reducible refine (verify_is 2 e s _ 6 6 letterL u7 HLO Z8 (Lib.hid (hk.out.below B8.out)) false HN1).mono ?_); rintro r u8 ⟨rfl, hb8⟩; have B9 := Lib.hid (bel_trans B8.out hb8); have Z9 := Lib.hid (Z8.out.below hb8); have A59 := Lib.hid (A58.out.below hb8 A58.out.lt); have A69 := A68.out.below hb8 A68.out.lt; clear hb8; replace d10 := A69.cell 0; replace d11 := A69.cell 1))
    | (go_at_call 14; ((with_reducible refine (verify_is 1024 e (s + 1073741789) _ 6 6 letterL u8 HLO Z9 (Lib.hid (hk.out.below B9.out)) false HN2).mono ?_); rintro r u9 ⟨rfl, hb9⟩; have B10 := Lib.hid (bel_trans B9.out hb9); have A510 := A59.out.below hb9 A59.out.lt; clear hb9; replace d10 := A510.cell 0; replace d11 := A510.cell 1))
    | (go_at_call 14; ((with_reducible refine (verify_is 536870895 e2 s2 none 0 0 [] u9 HNO (Lib.hid (nil_src _)) (Lib.hid (hk.out.below B10.out)) true HV2).mono ?_); rintro r u10 ⟨rfl, hb10⟩; have B11 := Lib.hid (bel_trans B10.out hb10); have A511 := A510.below hb10 A510.lt; clear hb10; replace d10 := A511.cell 0; replace d11 := A511.cell 1))
    | (go_at_call 14; ((with_reducible refine (verify_is 0 e2 s2 none 0 0 [] u10 HNO (Lib.hid (nil_src _)) (Lib.hid (hk.out.below B11.out)) false HN3).mono ?_); rintro r u11 ⟨rfl, hb11⟩; have B12 := Lib.hid (bel_trans B11.out hb11))))
  go_ret
  exact ⟨rfl, B12.out⟩
end Go.Proofs.YthhlpkppcbillaaDoor
