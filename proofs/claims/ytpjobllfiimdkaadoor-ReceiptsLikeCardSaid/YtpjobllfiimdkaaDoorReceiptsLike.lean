/- A receipt is a letter like any other. No condition. -/
import Derived.Test.YtpjobllfiimdkaaDoorRecSan
import Derived.Test.YtpjobllfiimdkaaDoorRecZA
import Derived.Test.YtpjobllfiimdkaaDoorOntOpn
import Derived.Test.YtpjobllfiimdkaaDoorDigCard2
namespace Go.Proofs.YtpjobllfiimdkaaDoor
open Go.ChangeShapes Go.WideShapes Go.ChangeAt Go.RowKit Go.WideElems Go.Shelf
set_option linter.unusedVariables false
set_option linter.unusedSimpArgs false

set_option maxRecDepth 100000 in
set_option maxHeartbeats 8000000 in
theorem like_e160_110 (sec a b c line key alias nonce r0 r1 r2 : Int) (w : World) (hk : Hid (KeysAt w)) (ml mk ma mb : Int) (ms : List Int) (hm : Hid (ms.length = 32)) (HM : Hid (∀ q : World, Below w.heap.size w q → Calls Tryd.prog 9 #[.int .i64 line, .int .i64 key, .int .i64 alias, .int .i64 nonce] q fun e w' => e = .returned (.tuple #[.agg (rtv ml mk ma mb ms).toArray, .int .i64 160]) ∧ Below q.heap.size q w')) (HR : Hid (∀ q : World, Below w.heap.size w q → Calls Tryd.prog 10 #[.int .i64 sec, .agg #[.int .i64 a, .int .i64 b, .int .i64 c], .agg (rtv ml mk ma mb ms).toArray, .agg #[.int .i64 r0, .int .i64 r1, .int .i64 r2]] q fun e w' => e = .returned (.tuple #[sealedV 0 0 0 0 0 0, .int .i64 110]) ∧ Below q.heap.size q w')) :
    Calls Tryd.prog 4 #[.int .i64 sec, .agg #[.int .i64 a, .int .i64 b, .int .i64 c], .int .i64 line, .int .i64 key, .int .i64 alias, .int .i64 nonce, .agg #[.int .i64 r0, .int .i64 r1, .int .i64 r2]] w fun r w' => r = .returned (.bool true) ∧ Below w.heap.size w w' := by
  have A0 := Lib.hid ((Blk.new w #[.int .i64 a, .int .i64 b, .int .i64 c] 23).alloc (.cells #[.int .i64 r0, .int .i64 r1, .int .i64 r2] 22))
  have R0 := Lib.hid (show Blk ((w.alloc (.cells #[.int .i64 a, .int .i64 b, .int .i64 c] 23)).alloc (.cells #[.int .i64 r0, .int .i64 r1, .int .i64 r2] 22)) (w.heap.size + 1) #[.int .i64 r0, .int .i64 r1, .int .i64 r2] 22 by have := Blk.new (w.alloc (.cells #[.int .i64 a, .int .i64 b, .int .i64 c] 23)) #[.int .i64 r0, .int .i64 r1, .int .i64 r2] 22; simpa using this)
  have B0 := Lib.hid (show Below w.heap.size w ((w.alloc (.cells #[.int .i64 a, .int .i64 b, .int .i64 c] 23)).alloc (.cells #[.int .i64 r0, .int .i64 r1, .int .i64 r2] 22)) from (bel_alloc1 w _).alloc (by simp) _)
  go_enter Tryd.func4, Tryd.ntmps4
  go_upto_region 1 with fail
  generalize World.alloc (World.alloc w _) _ = W0 at A0 R0 B0 ⊢
  go_upto_region 3 with (go_at_call 6; refine (sane43_any _ (Lib.hid (hk.out.below B0.out))).mono ?_; rintro r u1 ⟨rfl, hb⟩; have B1 := Lib.hid (bel_trans B0.out hb); have A1 := Lib.hid (A0.out.below hb A0.out.lt); have R1 := Lib.hid (R0.out.below hb R0.out.lt); clear hb)
  go_wp2_with (first
    | (go_at_call 9; refine (HM.out _ B1.out).mono ?_; rintro r u2 ⟨rfl, hb⟩; have B2 := Lib.hid (bel_trans B1.out hb); have A2 := Lib.hid (A1.out.below hb A1.out.lt); have R2 := Lib.hid (R1.out.below hb R1.out.lt); clear hb)
    | (refine list_storeR rfl (.tmp 15) (.tmp 33) rfl u2.heap.size rfl ml mk ma mb ms rfl hm.out 0 0 0 0 (List.replicate 32 0) (RBlk.new u2) ?_))
  intro u3 q3 k3
  have hb := (bel_alloc1 u2 _).trans (k3.below (Nat.le_refl _))
  have X3 := Lib.hid q3
  clear q3 k3
  have B3 := Lib.hid (bel_trans B2.out hb)
  have A3 := Lib.hid (A2.out.below hb A2.out.lt)
  have R3 := Lib.hid (R2.out.below hb R2.out.lt)
  clear hb
  obtain ⟨xb, hxb⟩ : ∃ q, u2.heap.size = q := ⟨_, rfl⟩
  rw [hxb] at X3 ⊢
  clear hxb
  go_upto_region 4 with fail
  have a0 := A3.out.cell 0
  have a1 := A3.out.cell 1
  have a2 := A3.out.cell 2
  have r0c := R3.out.cell 0
  have r1c := R3.out.cell 1
  have r2c := R3.out.cell 2
  go_upto_region 5 with (first
    | (refine list_loadR (by rfl) (.tmp 15) rfl xb rfl ml mk ma mb ms X3.out ?_)
    | (go_at_call 10; refine (HR.out _ B3.out).mono ?_; rintro r u4 ⟨rfl, hb⟩; have B4 := Lib.hid (bel_trans B3.out hb); have A4 := Lib.hid (A3.out.below hb A3.out.lt); have R4 := Lib.hid (R3.out.below hb R3.out.lt); have X4 := Lib.hid (X3.out.bel hb); clear hb a0 a1 a2 r0c r1c r2c))
  have hb := bel_alloc1 u4 (.cells #[.int .i64 0, .int .i64 0, .int .i64 0, .int .i64 0, .int .i64 0, .int .i64 0] 39)
  have S5 := Lib.hid (Blk.new u4 #[.int .i64 0, .int .i64 0, .int .i64 0, .int .i64 0, .int .i64 0, .int .i64 0] 39)
  generalize World.alloc u4 _ = u5 at hb S5 ⊢
  have B5 := Lib.hid (bel_trans B4.out hb)
  have A5 := Lib.hid (A4.out.below hb A4.out.lt)
  have R5 := Lib.hid (R4.out.below hb R4.out.lt)
  have X5 := Lib.hid (X4.out.bel hb)
  clear hb
  generalize u4.heap.size = sb at S5 ⊢
  have s0 := S5.out.cell 0
  have s1 := S5.out.cell 1
  have s2 := S5.out.cell 2
  have s3 := S5.out.cell 3
  have s4 := S5.out.cell 4
  have s5 := S5.out.cell 5
  go_wp2_with fail
  go_ret
  exact ⟨rfl, B5.out⟩
set_option maxRecDepth 100000 in
set_option maxHeartbeats 8000000 in
theorem like_e160_430 (sec a b c line key alias nonce r0 r1 r2 : Int) (w : World) (hk : Hid (KeysAt w)) (ml mk ma mb : Int) (ms : List Int) (hm : Hid (ms.length = 32)) (HM : Hid (∀ q : World, Below w.heap.size w q → Calls Tryd.prog 9 #[.int .i64 line, .int .i64 key, .int .i64 alias, .int .i64 nonce] q fun e w' => e = .returned (.tuple #[.agg (rtv ml mk ma mb ms).toArray, .int .i64 160]) ∧ Below q.heap.size q w')) (HR : Hid (∀ q : World, Below w.heap.size w q → Calls Tryd.prog 10 #[.int .i64 sec, .agg #[.int .i64 a, .int .i64 b, .int .i64 c], .agg (rtv ml mk ma mb ms).toArray, .agg #[.int .i64 r0, .int .i64 r1, .int .i64 r2]] q fun e w' => e = .returned (.tuple #[sealedV 0 0 0 0 0 0, .int .i64 430]) ∧ Below q.heap.size q w')) :
    Calls Tryd.prog 4 #[.int .i64 sec, .agg #[.int .i64 a, .int .i64 b, .int .i64 c], .int .i64 line, .int .i64 key, .int .i64 alias, .int .i64 nonce, .agg #[.int .i64 r0, .int .i64 r1, .int .i64 r2]] w fun r w' => r = .returned (.bool true) ∧ Below w.heap.size w w' := by
  have A0 := Lib.hid ((Blk.new w #[.int .i64 a, .int .i64 b, .int .i64 c] 23).alloc (.cells #[.int .i64 r0, .int .i64 r1, .int .i64 r2] 22))
  have R0 := Lib.hid (show Blk ((w.alloc (.cells #[.int .i64 a, .int .i64 b, .int .i64 c] 23)).alloc (.cells #[.int .i64 r0, .int .i64 r1, .int .i64 r2] 22)) (w.heap.size + 1) #[.int .i64 r0, .int .i64 r1, .int .i64 r2] 22 by have := Blk.new (w.alloc (.cells #[.int .i64 a, .int .i64 b, .int .i64 c] 23)) #[.int .i64 r0, .int .i64 r1, .int .i64 r2] 22; simpa using this)
  have B0 := Lib.hid (show Below w.heap.size w ((w.alloc (.cells #[.int .i64 a, .int .i64 b, .int .i64 c] 23)).alloc (.cells #[.int .i64 r0, .int .i64 r1, .int .i64 r2] 22)) from (bel_alloc1 w _).alloc (by simp) _)
  go_enter Tryd.func4, Tryd.ntmps4
  go_upto_region 1 with fail
  generalize World.alloc (World.alloc w _) _ = W0 at A0 R0 B0 ⊢
  go_upto_region 3 with (go_at_call 6; refine (sane43_any _ (Lib.hid (hk.out.below B0.out))).mono ?_; rintro r u1 ⟨rfl, hb⟩; have B1 := Lib.hid (bel_trans B0.out hb); have A1 := Lib.hid (A0.out.below hb A0.out.lt); have R1 := Lib.hid (R0.out.below hb R0.out.lt); clear hb)
  go_wp2_with (first
    | (go_at_call 9; refine (HM.out _ B1.out).mono ?_; rintro r u2 ⟨rfl, hb⟩; have B2 := Lib.hid (bel_trans B1.out hb); have A2 := Lib.hid (A1.out.below hb A1.out.lt); have R2 := Lib.hid (R1.out.below hb R1.out.lt); clear hb)
    | (refine list_storeR rfl (.tmp 15) (.tmp 33) rfl u2.heap.size rfl ml mk ma mb ms rfl hm.out 0 0 0 0 (List.replicate 32 0) (RBlk.new u2) ?_))
  intro u3 q3 k3
  have hb := (bel_alloc1 u2 _).trans (k3.below (Nat.le_refl _))
  have X3 := Lib.hid q3
  clear q3 k3
  have B3 := Lib.hid (bel_trans B2.out hb)
  have A3 := Lib.hid (A2.out.below hb A2.out.lt)
  have R3 := Lib.hid (R2.out.below hb R2.out.lt)
  clear hb
  obtain ⟨xb, hxb⟩ : ∃ q, u2.heap.size = q := ⟨_, rfl⟩
  rw [hxb] at X3 ⊢
  clear hxb
  go_upto_region 4 with fail
  have a0 := A3.out.cell 0
  have a1 := A3.out.cell 1
  have a2 := A3.out.cell 2
  have r0c := R3.out.cell 0
  have r1c := R3.out.cell 1
  have r2c := R3.out.cell 2
  go_upto_region 5 with (first
    | (refine list_loadR (by rfl) (.tmp 15) rfl xb rfl ml mk ma mb ms X3.out ?_)
    | (go_at_call 10; refine (HR.out _ B3.out).mono ?_; rintro r u4 ⟨rfl, hb⟩; have B4 := Lib.hid (bel_trans B3.out hb); have A4 := Lib.hid (A3.out.below hb A3.out.lt); have R4 := Lib.hid (R3.out.below hb R3.out.lt); have X4 := Lib.hid (X3.out.bel hb); clear hb a0 a1 a2 r0c r1c r2c))
  have hb := bel_alloc1 u4 (.cells #[.int .i64 0, .int .i64 0, .int .i64 0, .int .i64 0, .int .i64 0, .int .i64 0] 39)
  have S5 := Lib.hid (Blk.new u4 #[.int .i64 0, .int .i64 0, .int .i64 0, .int .i64 0, .int .i64 0, .int .i64 0] 39)
  generalize World.alloc u4 _ = u5 at hb S5 ⊢
  have B5 := Lib.hid (bel_trans B4.out hb)
  have A5 := Lib.hid (A4.out.below hb A4.out.lt)
  have R5 := Lib.hid (R4.out.below hb R4.out.lt)
  have X5 := Lib.hid (X4.out.bel hb)
  clear hb
  generalize u4.heap.size = sb at S5 ⊢
  have s0 := S5.out.cell 0
  have s1 := S5.out.cell 1
  have s2 := S5.out.cell 2
  have s3 := S5.out.cell 3
  have s4 := S5.out.cell 4
  have s5 := S5.out.cell 5
  go_wp2_with fail
  go_ret
  exact ⟨rfl, B5.out⟩
set_option maxRecDepth 100000 in
set_option maxHeartbeats 8000000 in
theorem like_e160_160 (sec a b c line key alias nonce r0 r1 r2 : Int) (w : World) (hk : Hid (KeysAt w)) (ml mk ma mb : Int) (ms : List Int) (hm : Hid (ms.length = 32)) (HM : Hid (∀ q : World, Below w.heap.size w q → Calls Tryd.prog 9 #[.int .i64 line, .int .i64 key, .int .i64 alias, .int .i64 nonce] q fun e w' => e = .returned (.tuple #[.agg (rtv ml mk ma mb ms).toArray, .int .i64 160]) ∧ Below q.heap.size q w')) (HR : Hid (∀ q : World, Below w.heap.size w q → Calls Tryd.prog 10 #[.int .i64 sec, .agg #[.int .i64 a, .int .i64 b, .int .i64 c], .agg (rtv ml mk ma mb ms).toArray, .agg #[.int .i64 r0, .int .i64 r1, .int .i64 r2]] q fun e w' => e = .returned (.tuple #[sealedV 0 0 0 0 0 0, .int .i64 160]) ∧ Below q.heap.size q w')) :
    Calls Tryd.prog 4 #[.int .i64 sec, .agg #[.int .i64 a, .int .i64 b, .int .i64 c], .int .i64 line, .int .i64 key, .int .i64 alias, .int .i64 nonce, .agg #[.int .i64 r0, .int .i64 r1, .int .i64 r2]] w fun r w' => r = .returned (.bool true) ∧ Below w.heap.size w w' := by
  have A0 := Lib.hid ((Blk.new w #[.int .i64 a, .int .i64 b, .int .i64 c] 23).alloc (.cells #[.int .i64 r0, .int .i64 r1, .int .i64 r2] 22))
  have R0 := Lib.hid (show Blk ((w.alloc (.cells #[.int .i64 a, .int .i64 b, .int .i64 c] 23)).alloc (.cells #[.int .i64 r0, .int .i64 r1, .int .i64 r2] 22)) (w.heap.size + 1) #[.int .i64 r0, .int .i64 r1, .int .i64 r2] 22 by have := Blk.new (w.alloc (.cells #[.int .i64 a, .int .i64 b, .int .i64 c] 23)) #[.int .i64 r0, .int .i64 r1, .int .i64 r2] 22; simpa using this)
  have B0 := Lib.hid (show Below w.heap.size w ((w.alloc (.cells #[.int .i64 a, .int .i64 b, .int .i64 c] 23)).alloc (.cells #[.int .i64 r0, .int .i64 r1, .int .i64 r2] 22)) from (bel_alloc1 w _).alloc (by simp) _)
  go_enter Tryd.func4, Tryd.ntmps4
  go_upto_region 1 with fail
  generalize World.alloc (World.alloc w _) _ = W0 at A0 R0 B0 ⊢
  go_upto_region 3 with (go_at_call 6; refine (sane43_any _ (Lib.hid (hk.out.below B0.out))).mono ?_; rintro r u1 ⟨rfl, hb⟩; have B1 := Lib.hid (bel_trans B0.out hb); have A1 := Lib.hid (A0.out.below hb A0.out.lt); have R1 := Lib.hid (R0.out.below hb R0.out.lt); clear hb)
  go_wp2_with (first
    | (go_at_call 9; refine (HM.out _ B1.out).mono ?_; rintro r u2 ⟨rfl, hb⟩; have B2 := Lib.hid (bel_trans B1.out hb); have A2 := Lib.hid (A1.out.below hb A1.out.lt); have R2 := Lib.hid (R1.out.below hb R1.out.lt); clear hb)
    | (refine list_storeR rfl (.tmp 15) (.tmp 33) rfl u2.heap.size rfl ml mk ma mb ms rfl hm.out 0 0 0 0 (List.replicate 32 0) (RBlk.new u2) ?_))
  intro u3 q3 k3
  have hb := (bel_alloc1 u2 _).trans (k3.below (Nat.le_refl _))
  have X3 := Lib.hid q3
  clear q3 k3
  have B3 := Lib.hid (bel_trans B2.out hb)
  have A3 := Lib.hid (A2.out.below hb A2.out.lt)
  have R3 := Lib.hid (R2.out.below hb R2.out.lt)
  clear hb
  obtain ⟨xb, hxb⟩ : ∃ q, u2.heap.size = q := ⟨_, rfl⟩
  rw [hxb] at X3 ⊢
  clear hxb
  go_upto_region 4 with fail
  have a0 := A3.out.cell 0
  have a1 := A3.out.cell 1
  have a2 := A3.out.cell 2
  have r0c := R3.out.cell 0
  have r1c := R3.out.cell 1
  have r2c := R3.out.cell 2
  go_upto_region 5 with (first
    | (refine list_loadR (by rfl) (.tmp 15) rfl xb rfl ml mk ma mb ms X3.out ?_)
    | (go_at_call 10; refine (HR.out _ B3.out).mono ?_; rintro r u4 ⟨rfl, hb⟩; have B4 := Lib.hid (bel_trans B3.out hb); have A4 := Lib.hid (A3.out.below hb A3.out.lt); have R4 := Lib.hid (R3.out.below hb R3.out.lt); have X4 := Lib.hid (X3.out.bel hb); clear hb a0 a1 a2 r0c r1c r2c))
  have hb := bel_alloc1 u4 (.cells #[.int .i64 0, .int .i64 0, .int .i64 0, .int .i64 0, .int .i64 0, .int .i64 0] 39)
  have S5 := Lib.hid (Blk.new u4 #[.int .i64 0, .int .i64 0, .int .i64 0, .int .i64 0, .int .i64 0, .int .i64 0] 39)
  generalize World.alloc u4 _ = u5 at hb S5 ⊢
  have B5 := Lib.hid (bel_trans B4.out hb)
  have A5 := Lib.hid (A4.out.below hb A4.out.lt)
  have R5 := Lib.hid (R4.out.below hb R4.out.lt)
  have X5 := Lib.hid (X4.out.bel hb)
  clear hb
  generalize u4.heap.size = sb at S5 ⊢
  have s0 := S5.out.cell 0
  have s1 := S5.out.cell 1
  have s2 := S5.out.cell 2
  have s3 := S5.out.cell 3
  have s4 := S5.out.cell 4
  have s5 := S5.out.cell 5
  go_wp2_with fail
  go_ret
  exact ⟨rfl, B5.out⟩
set_option maxRecDepth 100000 in
set_option maxHeartbeats 8000000 in
theorem like_e90_110 (sec a b c line key alias nonce r0 r1 r2 : Int) (w : World) (hk : Hid (KeysAt w)) (ml mk ma mb : Int) (ms : List Int) (hm : Hid (ms.length = 32)) (HM : Hid (∀ q : World, Below w.heap.size w q → Calls Tryd.prog 9 #[.int .i64 line, .int .i64 key, .int .i64 alias, .int .i64 nonce] q fun e w' => e = .returned (.tuple #[.agg (rtv ml mk ma mb ms).toArray, .int .i64 90]) ∧ Below q.heap.size q w')) (HR : Hid (∀ q : World, Below w.heap.size w q → Calls Tryd.prog 10 #[.int .i64 sec, .agg #[.int .i64 a, .int .i64 b, .int .i64 c], .agg (rtv ml mk ma mb ms).toArray, .agg #[.int .i64 r0, .int .i64 r1, .int .i64 r2]] q fun e w' => e = .returned (.tuple #[sealedV 0 0 0 0 0 0, .int .i64 110]) ∧ Below q.heap.size q w')) :
    Calls Tryd.prog 4 #[.int .i64 sec, .agg #[.int .i64 a, .int .i64 b, .int .i64 c], .int .i64 line, .int .i64 key, .int .i64 alias, .int .i64 nonce, .agg #[.int .i64 r0, .int .i64 r1, .int .i64 r2]] w fun r w' => r = .returned (.bool true) ∧ Below w.heap.size w w' := by
  have A0 := Lib.hid ((Blk.new w #[.int .i64 a, .int .i64 b, .int .i64 c] 23).alloc (.cells #[.int .i64 r0, .int .i64 r1, .int .i64 r2] 22))
  have R0 := Lib.hid (show Blk ((w.alloc (.cells #[.int .i64 a, .int .i64 b, .int .i64 c] 23)).alloc (.cells #[.int .i64 r0, .int .i64 r1, .int .i64 r2] 22)) (w.heap.size + 1) #[.int .i64 r0, .int .i64 r1, .int .i64 r2] 22 by have := Blk.new (w.alloc (.cells #[.int .i64 a, .int .i64 b, .int .i64 c] 23)) #[.int .i64 r0, .int .i64 r1, .int .i64 r2] 22; simpa using this)
  have B0 := Lib.hid (show Below w.heap.size w ((w.alloc (.cells #[.int .i64 a, .int .i64 b, .int .i64 c] 23)).alloc (.cells #[.int .i64 r0, .int .i64 r1, .int .i64 r2] 22)) from (bel_alloc1 w _).alloc (by simp) _)
  go_enter Tryd.func4, Tryd.ntmps4
  go_upto_region 1 with fail
  generalize World.alloc (World.alloc w _) _ = W0 at A0 R0 B0 ⊢
  go_upto_region 3 with (go_at_call 6; refine (sane43_any _ (Lib.hid (hk.out.below B0.out))).mono ?_; rintro r u1 ⟨rfl, hb⟩; have B1 := Lib.hid (bel_trans B0.out hb); have A1 := Lib.hid (A0.out.below hb A0.out.lt); have R1 := Lib.hid (R0.out.below hb R0.out.lt); clear hb)
  go_wp2_with (first
    | (go_at_call 9; refine (HM.out _ B1.out).mono ?_; rintro r u2 ⟨rfl, hb⟩; have B2 := Lib.hid (bel_trans B1.out hb); have A2 := Lib.hid (A1.out.below hb A1.out.lt); have R2 := Lib.hid (R1.out.below hb R1.out.lt); clear hb)
    | (refine list_storeR rfl (.tmp 15) (.tmp 33) rfl u2.heap.size rfl ml mk ma mb ms rfl hm.out 0 0 0 0 (List.replicate 32 0) (RBlk.new u2) ?_))
  intro u3 q3 k3
  have hb := (bel_alloc1 u2 _).trans (k3.below (Nat.le_refl _))
  have X3 := Lib.hid q3
  clear q3 k3
  have B3 := Lib.hid (bel_trans B2.out hb)
  have A3 := Lib.hid (A2.out.below hb A2.out.lt)
  have R3 := Lib.hid (R2.out.below hb R2.out.lt)
  clear hb
  obtain ⟨xb, hxb⟩ : ∃ q, u2.heap.size = q := ⟨_, rfl⟩
  rw [hxb] at X3 ⊢
  clear hxb
  go_upto_region 4 with fail
  have a0 := A3.out.cell 0
  have a1 := A3.out.cell 1
  have a2 := A3.out.cell 2
  have r0c := R3.out.cell 0
  have r1c := R3.out.cell 1
  have r2c := R3.out.cell 2
  go_upto_region 5 with (first
    | (refine list_loadR (by rfl) (.tmp 15) rfl xb rfl ml mk ma mb ms X3.out ?_)
    | (go_at_call 10; refine (HR.out _ B3.out).mono ?_; rintro r u4 ⟨rfl, hb⟩; have B4 := Lib.hid (bel_trans B3.out hb); have A4 := Lib.hid (A3.out.below hb A3.out.lt); have R4 := Lib.hid (R3.out.below hb R3.out.lt); have X4 := Lib.hid (X3.out.bel hb); clear hb a0 a1 a2 r0c r1c r2c))
  have hb := bel_alloc1 u4 (.cells #[.int .i64 0, .int .i64 0, .int .i64 0, .int .i64 0, .int .i64 0, .int .i64 0] 39)
  have S5 := Lib.hid (Blk.new u4 #[.int .i64 0, .int .i64 0, .int .i64 0, .int .i64 0, .int .i64 0, .int .i64 0] 39)
  generalize World.alloc u4 _ = u5 at hb S5 ⊢
  have B5 := Lib.hid (bel_trans B4.out hb)
  have A5 := Lib.hid (A4.out.below hb A4.out.lt)
  have R5 := Lib.hid (R4.out.below hb R4.out.lt)
  have X5 := Lib.hid (X4.out.bel hb)
  clear hb
  generalize u4.heap.size = sb at S5 ⊢
  have s0 := S5.out.cell 0
  have s1 := S5.out.cell 1
  have s2 := S5.out.cell 2
  have s3 := S5.out.cell 3
  have s4 := S5.out.cell 4
  have s5 := S5.out.cell 5
  go_wp2_with fail
  go_ret
  exact ⟨rfl, B5.out⟩
set_option maxRecDepth 100000 in
set_option maxHeartbeats 8000000 in
theorem like_e90_430 (sec a b c line key alias nonce r0 r1 r2 : Int) (w : World) (hk : Hid (KeysAt w)) (ml mk ma mb : Int) (ms : List Int) (hm : Hid (ms.length = 32)) (HM : Hid (∀ q : World, Below w.heap.size w q → Calls Tryd.prog 9 #[.int .i64 line, .int .i64 key, .int .i64 alias, .int .i64 nonce] q fun e w' => e = .returned (.tuple #[.agg (rtv ml mk ma mb ms).toArray, .int .i64 90]) ∧ Below q.heap.size q w')) (HR : Hid (∀ q : World, Below w.heap.size w q → Calls Tryd.prog 10 #[.int .i64 sec, .agg #[.int .i64 a, .int .i64 b, .int .i64 c], .agg (rtv ml mk ma mb ms).toArray, .agg #[.int .i64 r0, .int .i64 r1, .int .i64 r2]] q fun e w' => e = .returned (.tuple #[sealedV 0 0 0 0 0 0, .int .i64 430]) ∧ Below q.heap.size q w')) :
    Calls Tryd.prog 4 #[.int .i64 sec, .agg #[.int .i64 a, .int .i64 b, .int .i64 c], .int .i64 line, .int .i64 key, .int .i64 alias, .int .i64 nonce, .agg #[.int .i64 r0, .int .i64 r1, .int .i64 r2]] w fun r w' => r = .returned (.bool true) ∧ Below w.heap.size w w' := by
  have A0 := Lib.hid ((Blk.new w #[.int .i64 a, .int .i64 b, .int .i64 c] 23).alloc (.cells #[.int .i64 r0, .int .i64 r1, .int .i64 r2] 22))
  have R0 := Lib.hid (show Blk ((w.alloc (.cells #[.int .i64 a, .int .i64 b, .int .i64 c] 23)).alloc (.cells #[.int .i64 r0, .int .i64 r1, .int .i64 r2] 22)) (w.heap.size + 1) #[.int .i64 r0, .int .i64 r1, .int .i64 r2] 22 by have := Blk.new (w.alloc (.cells #[.int .i64 a, .int .i64 b, .int .i64 c] 23)) #[.int .i64 r0, .int .i64 r1, .int .i64 r2] 22; simpa using this)
  have B0 := Lib.hid (show Below w.heap.size w ((w.alloc (.cells #[.int .i64 a, .int .i64 b, .int .i64 c] 23)).alloc (.cells #[.int .i64 r0, .int .i64 r1, .int .i64 r2] 22)) from (bel_alloc1 w _).alloc (by simp) _)
  go_enter Tryd.func4, Tryd.ntmps4
  go_upto_region 1 with fail
  generalize World.alloc (World.alloc w _) _ = W0 at A0 R0 B0 ⊢
  go_upto_region 3 with (go_at_call 6; refine (sane43_any _ (Lib.hid (hk.out.below B0.out))).mono ?_; rintro r u1 ⟨rfl, hb⟩; have B1 := Lib.hid (bel_trans B0.out hb); have A1 := Lib.hid (A0.out.below hb A0.out.lt); have R1 := Lib.hid (R0.out.below hb R0.out.lt); clear hb)
  go_wp2_with (first
    | (go_at_call 9; refine (HM.out _ B1.out).mono ?_; rintro r u2 ⟨rfl, hb⟩; have B2 := Lib.hid (bel_trans B1.out hb); have A2 := Lib.hid (A1.out.below hb A1.out.lt); have R2 := Lib.hid (R1.out.below hb R1.out.lt); clear hb)
    | (refine list_storeR rfl (.tmp 15) (.tmp 33) rfl u2.heap.size rfl ml mk ma mb ms rfl hm.out 0 0 0 0 (List.replicate 32 0) (RBlk.new u2) ?_))
  intro u3 q3 k3
  have hb := (bel_alloc1 u2 _).trans (k3.below (Nat.le_refl _))
  have X3 := Lib.hid q3
  clear q3 k3
  have B3 := Lib.hid (bel_trans B2.out hb)
  have A3 := Lib.hid (A2.out.below hb A2.out.lt)
  have R3 := Lib.hid (R2.out.below hb R2.out.lt)
  clear hb
  obtain ⟨xb, hxb⟩ : ∃ q, u2.heap.size = q := ⟨_, rfl⟩
  rw [hxb] at X3 ⊢
  clear hxb
  go_upto_region 4 with fail
  have a0 := A3.out.cell 0
  have a1 := A3.out.cell 1
  have a2 := A3.out.cell 2
  have r0c := R3.out.cell 0
  have r1c := R3.out.cell 1
  have r2c := R3.out.cell 2
  go_upto_region 5 with (first
    | (refine list_loadR (by rfl) (.tmp 15) rfl xb rfl ml mk ma mb ms X3.out ?_)
    | (go_at_call 10; refine (HR.out _ B3.out).mono ?_; rintro r u4 ⟨rfl, hb⟩; have B4 := Lib.hid (bel_trans B3.out hb); have A4 := Lib.hid (A3.out.below hb A3.out.lt); have R4 := Lib.hid (R3.out.below hb R3.out.lt); have X4 := Lib.hid (X3.out.bel hb); clear hb a0 a1 a2 r0c r1c r2c))
  have hb := bel_alloc1 u4 (.cells #[.int .i64 0, .int .i64 0, .int .i64 0, .int .i64 0, .int .i64 0, .int .i64 0] 39)
  have S5 := Lib.hid (Blk.new u4 #[.int .i64 0, .int .i64 0, .int .i64 0, .int .i64 0, .int .i64 0, .int .i64 0] 39)
  generalize World.alloc u4 _ = u5 at hb S5 ⊢
  have B5 := Lib.hid (bel_trans B4.out hb)
  have A5 := Lib.hid (A4.out.below hb A4.out.lt)
  have R5 := Lib.hid (R4.out.below hb R4.out.lt)
  have X5 := Lib.hid (X4.out.bel hb)
  clear hb
  generalize u4.heap.size = sb at S5 ⊢
  have s0 := S5.out.cell 0
  have s1 := S5.out.cell 1
  have s2 := S5.out.cell 2
  have s3 := S5.out.cell 3
  have s4 := S5.out.cell 4
  have s5 := S5.out.cell 5
  go_wp2_with fail
  go_ret
  exact ⟨rfl, B5.out⟩
set_option maxRecDepth 100000 in
set_option maxHeartbeats 8000000 in
theorem like_e90_160 (sec a b c line key alias nonce r0 r1 r2 : Int) (w : World) (hk : Hid (KeysAt w)) (ml mk ma mb : Int) (ms : List Int) (hm : Hid (ms.length = 32)) (HM : Hid (∀ q : World, Below w.heap.size w q → Calls Tryd.prog 9 #[.int .i64 line, .int .i64 key, .int .i64 alias, .int .i64 nonce] q fun e w' => e = .returned (.tuple #[.agg (rtv ml mk ma mb ms).toArray, .int .i64 90]) ∧ Below q.heap.size q w')) (HR : Hid (∀ q : World, Below w.heap.size w q → Calls Tryd.prog 10 #[.int .i64 sec, .agg #[.int .i64 a, .int .i64 b, .int .i64 c], .agg (rtv ml mk ma mb ms).toArray, .agg #[.int .i64 r0, .int .i64 r1, .int .i64 r2]] q fun e w' => e = .returned (.tuple #[sealedV 0 0 0 0 0 0, .int .i64 160]) ∧ Below q.heap.size q w')) :
    Calls Tryd.prog 4 #[.int .i64 sec, .agg #[.int .i64 a, .int .i64 b, .int .i64 c], .int .i64 line, .int .i64 key, .int .i64 alias, .int .i64 nonce, .agg #[.int .i64 r0, .int .i64 r1, .int .i64 r2]] w fun r w' => r = .returned (.bool true) ∧ Below w.heap.size w w' := by
  have A0 := Lib.hid ((Blk.new w #[.int .i64 a, .int .i64 b, .int .i64 c] 23).alloc (.cells #[.int .i64 r0, .int .i64 r1, .int .i64 r2] 22))
  have R0 := Lib.hid (show Blk ((w.alloc (.cells #[.int .i64 a, .int .i64 b, .int .i64 c] 23)).alloc (.cells #[.int .i64 r0, .int .i64 r1, .int .i64 r2] 22)) (w.heap.size + 1) #[.int .i64 r0, .int .i64 r1, .int .i64 r2] 22 by have := Blk.new (w.alloc (.cells #[.int .i64 a, .int .i64 b, .int .i64 c] 23)) #[.int .i64 r0, .int .i64 r1, .int .i64 r2] 22; simpa using this)
  have B0 := Lib.hid (show Below w.heap.size w ((w.alloc (.cells #[.int .i64 a, .int .i64 b, .int .i64 c] 23)).alloc (.cells #[.int .i64 r0, .int .i64 r1, .int .i64 r2] 22)) from (bel_alloc1 w _).alloc (by simp) _)
  go_enter Tryd.func4, Tryd.ntmps4
  go_upto_region 1 with fail
  generalize World.alloc (World.alloc w _) _ = W0 at A0 R0 B0 ⊢
  go_upto_region 3 with (go_at_call 6; refine (sane43_any _ (Lib.hid (hk.out.below B0.out))).mono ?_; rintro r u1 ⟨rfl, hb⟩; have B1 := Lib.hid (bel_trans B0.out hb); have A1 := Lib.hid (A0.out.below hb A0.out.lt); have R1 := Lib.hid (R0.out.below hb R0.out.lt); clear hb)
  go_wp2_with (first
    | (go_at_call 9; refine (HM.out _ B1.out).mono ?_; rintro r u2 ⟨rfl, hb⟩; have B2 := Lib.hid (bel_trans B1.out hb); have A2 := Lib.hid (A1.out.below hb A1.out.lt); have R2 := Lib.hid (R1.out.below hb R1.out.lt); clear hb)
    | (refine list_storeR rfl (.tmp 15) (.tmp 33) rfl u2.heap.size rfl ml mk ma mb ms rfl hm.out 0 0 0 0 (List.replicate 32 0) (RBlk.new u2) ?_))
  intro u3 q3 k3
  have hb := (bel_alloc1 u2 _).trans (k3.below (Nat.le_refl _))
  have X3 := Lib.hid q3
  clear q3 k3
  have B3 := Lib.hid (bel_trans B2.out hb)
  have A3 := Lib.hid (A2.out.below hb A2.out.lt)
  have R3 := Lib.hid (R2.out.below hb R2.out.lt)
  clear hb
  obtain ⟨xb, hxb⟩ : ∃ q, u2.heap.size = q := ⟨_, rfl⟩
  rw [hxb] at X3 ⊢
  clear hxb
  go_upto_region 4 with fail
  have a0 := A3.out.cell 0
  have a1 := A3.out.cell 1
  have a2 := A3.out.cell 2
  have r0c := R3.out.cell 0
  have r1c := R3.out.cell 1
  have r2c := R3.out.cell 2
  go_upto_region 5 with (first
    | (refine list_loadR (by rfl) (.tmp 15) rfl xb rfl ml mk ma mb ms X3.out ?_)
    | (go_at_call 10; refine (HR.out _ B3.out).mono ?_; rintro r u4 ⟨rfl, hb⟩; have B4 := Lib.hid (bel_trans B3.out hb); have A4 := Lib.hid (A3.out.below hb A3.out.lt); have R4 := Lib.hid (R3.out.below hb R3.out.lt); have X4 := Lib.hid (X3.out.bel hb); clear hb a0 a1 a2 r0c r1c r2c))
  have hb := bel_alloc1 u4 (.cells #[.int .i64 0, .int .i64 0, .int .i64 0, .int .i64 0, .int .i64 0, .int .i64 0] 39)
  have S5 := Lib.hid (Blk.new u4 #[.int .i64 0, .int .i64 0, .int .i64 0, .int .i64 0, .int .i64 0, .int .i64 0] 39)
  generalize World.alloc u4 _ = u5 at hb S5 ⊢
  have B5 := Lib.hid (bel_trans B4.out hb)
  have A5 := Lib.hid (A4.out.below hb A4.out.lt)
  have R5 := Lib.hid (R4.out.below hb R4.out.lt)
  have X5 := Lib.hid (X4.out.bel hb)
  clear hb
  generalize u4.heap.size = sb at S5 ⊢
  have s0 := S5.out.cell 0
  have s1 := S5.out.cell 1
  have s2 := S5.out.cell 2
  have s3 := S5.out.cell 3
  have s4 := S5.out.cell 4
  have s5 := S5.out.cell 5
  go_wp2_with fail
  go_ret
  exact ⟨rfl, B5.out⟩
set_option maxRecDepth 100000 in
set_option maxHeartbeats 8000000 in
theorem like_e0_110 (sec a b c line key alias nonce r0 r1 r2 : Int) (w : World) (hk : Hid (KeysAt w)) (ml mk ma mb : Int) (ms : List Int) (hm : Hid (ms.length = 32)) (HM : Hid (∀ q : World, Below w.heap.size w q → Calls Tryd.prog 9 #[.int .i64 line, .int .i64 key, .int .i64 alias, .int .i64 nonce] q fun e w' => e = .returned (.tuple #[.agg (rtv ml mk ma mb ms).toArray, .int .i64 0]) ∧ Below q.heap.size q w')) (HR : Hid (∀ q : World, Below w.heap.size w q → Calls Tryd.prog 10 #[.int .i64 sec, .agg #[.int .i64 a, .int .i64 b, .int .i64 c], .agg (rtv ml mk ma mb ms).toArray, .agg #[.int .i64 r0, .int .i64 r1, .int .i64 r2]] q fun e w' => e = .returned (.tuple #[sealedV 0 0 0 0 0 0, .int .i64 110]) ∧ Below q.heap.size q w')) :
    Calls Tryd.prog 4 #[.int .i64 sec, .agg #[.int .i64 a, .int .i64 b, .int .i64 c], .int .i64 line, .int .i64 key, .int .i64 alias, .int .i64 nonce, .agg #[.int .i64 r0, .int .i64 r1, .int .i64 r2]] w fun r w' => r = .returned (.bool true) ∧ Below w.heap.size w w' := by
  have A0 := Lib.hid ((Blk.new w #[.int .i64 a, .int .i64 b, .int .i64 c] 23).alloc (.cells #[.int .i64 r0, .int .i64 r1, .int .i64 r2] 22))
  have R0 := Lib.hid (show Blk ((w.alloc (.cells #[.int .i64 a, .int .i64 b, .int .i64 c] 23)).alloc (.cells #[.int .i64 r0, .int .i64 r1, .int .i64 r2] 22)) (w.heap.size + 1) #[.int .i64 r0, .int .i64 r1, .int .i64 r2] 22 by have := Blk.new (w.alloc (.cells #[.int .i64 a, .int .i64 b, .int .i64 c] 23)) #[.int .i64 r0, .int .i64 r1, .int .i64 r2] 22; simpa using this)
  have B0 := Lib.hid (show Below w.heap.size w ((w.alloc (.cells #[.int .i64 a, .int .i64 b, .int .i64 c] 23)).alloc (.cells #[.int .i64 r0, .int .i64 r1, .int .i64 r2] 22)) from (bel_alloc1 w _).alloc (by simp) _)
  go_enter Tryd.func4, Tryd.ntmps4
  go_upto_region 1 with fail
  generalize World.alloc (World.alloc w _) _ = W0 at A0 R0 B0 ⊢
  go_upto_region 3 with (go_at_call 6; refine (sane43_any _ (Lib.hid (hk.out.below B0.out))).mono ?_; rintro r u1 ⟨rfl, hb⟩; have B1 := Lib.hid (bel_trans B0.out hb); have A1 := Lib.hid (A0.out.below hb A0.out.lt); have R1 := Lib.hid (R0.out.below hb R0.out.lt); clear hb)
  go_wp2_with (first
    | (go_at_call 9; refine (HM.out _ B1.out).mono ?_; rintro r u2 ⟨rfl, hb⟩; have B2 := Lib.hid (bel_trans B1.out hb); have A2 := Lib.hid (A1.out.below hb A1.out.lt); have R2 := Lib.hid (R1.out.below hb R1.out.lt); clear hb)
    | (refine list_storeR rfl (.tmp 15) (.tmp 33) rfl u2.heap.size rfl ml mk ma mb ms rfl hm.out 0 0 0 0 (List.replicate 32 0) (RBlk.new u2) ?_))
  intro u3 q3 k3
  have hb := (bel_alloc1 u2 _).trans (k3.below (Nat.le_refl _))
  have X3 := Lib.hid q3
  clear q3 k3
  have B3 := Lib.hid (bel_trans B2.out hb)
  have A3 := Lib.hid (A2.out.below hb A2.out.lt)
  have R3 := Lib.hid (R2.out.below hb R2.out.lt)
  clear hb
  obtain ⟨xb, hxb⟩ : ∃ q, u2.heap.size = q := ⟨_, rfl⟩
  rw [hxb] at X3 ⊢
  clear hxb
  go_upto_region 4 with fail
  have a0 := A3.out.cell 0
  have a1 := A3.out.cell 1
  have a2 := A3.out.cell 2
  have r0c := R3.out.cell 0
  have r1c := R3.out.cell 1
  have r2c := R3.out.cell 2
  go_upto_region 5 with (first
    | (refine list_loadR (by rfl) (.tmp 15) rfl xb rfl ml mk ma mb ms X3.out ?_)
    | (go_at_call 10; refine (HR.out _ B3.out).mono ?_; rintro r u4 ⟨rfl, hb⟩; have B4 := Lib.hid (bel_trans B3.out hb); have A4 := Lib.hid (A3.out.below hb A3.out.lt); have R4 := Lib.hid (R3.out.below hb R3.out.lt); have X4 := Lib.hid (X3.out.bel hb); clear hb a0 a1 a2 r0c r1c r2c))
  have hb := bel_alloc1 u4 (.cells #[.int .i64 0, .int .i64 0, .int .i64 0, .int .i64 0, .int .i64 0, .int .i64 0] 39)
  have S5 := Lib.hid (Blk.new u4 #[.int .i64 0, .int .i64 0, .int .i64 0, .int .i64 0, .int .i64 0, .int .i64 0] 39)
  generalize World.alloc u4 _ = u5 at hb S5 ⊢
  have B5 := Lib.hid (bel_trans B4.out hb)
  have A5 := Lib.hid (A4.out.below hb A4.out.lt)
  have R5 := Lib.hid (R4.out.below hb R4.out.lt)
  have X5 := Lib.hid (X4.out.bel hb)
  clear hb
  generalize u4.heap.size = sb at S5 ⊢
  have s0 := S5.out.cell 0
  have s1 := S5.out.cell 1
  have s2 := S5.out.cell 2
  have s3 := S5.out.cell 3
  have s4 := S5.out.cell 4
  have s5 := S5.out.cell 5
  go_wp2_with fail
  go_ret
  exact ⟨rfl, B5.out⟩
set_option maxRecDepth 100000 in
set_option maxHeartbeats 8000000 in
theorem like_e0_430 (sec a b c line key alias nonce r0 r1 r2 : Int) (w : World) (hk : Hid (KeysAt w)) (ml mk ma mb : Int) (ms : List Int) (hm : Hid (ms.length = 32)) (HM : Hid (∀ q : World, Below w.heap.size w q → Calls Tryd.prog 9 #[.int .i64 line, .int .i64 key, .int .i64 alias, .int .i64 nonce] q fun e w' => e = .returned (.tuple #[.agg (rtv ml mk ma mb ms).toArray, .int .i64 0]) ∧ Below q.heap.size q w')) (HR : Hid (∀ q : World, Below w.heap.size w q → Calls Tryd.prog 10 #[.int .i64 sec, .agg #[.int .i64 a, .int .i64 b, .int .i64 c], .agg (rtv ml mk ma mb ms).toArray, .agg #[.int .i64 r0, .int .i64 r1, .int .i64 r2]] q fun e w' => e = .returned (.tuple #[sealedV 0 0 0 0 0 0, .int .i64 430]) ∧ Below q.heap.size q w')) :
    Calls Tryd.prog 4 #[.int .i64 sec, .agg #[.int .i64 a, .int .i64 b, .int .i64 c], .int .i64 line, .int .i64 key, .int .i64 alias, .int .i64 nonce, .agg #[.int .i64 r0, .int .i64 r1, .int .i64 r2]] w fun r w' => r = .returned (.bool true) ∧ Below w.heap.size w w' := by
  have A0 := Lib.hid ((Blk.new w #[.int .i64 a, .int .i64 b, .int .i64 c] 23).alloc (.cells #[.int .i64 r0, .int .i64 r1, .int .i64 r2] 22))
  have R0 := Lib.hid (show Blk ((w.alloc (.cells #[.int .i64 a, .int .i64 b, .int .i64 c] 23)).alloc (.cells #[.int .i64 r0, .int .i64 r1, .int .i64 r2] 22)) (w.heap.size + 1) #[.int .i64 r0, .int .i64 r1, .int .i64 r2] 22 by have := Blk.new (w.alloc (.cells #[.int .i64 a, .int .i64 b, .int .i64 c] 23)) #[.int .i64 r0, .int .i64 r1, .int .i64 r2] 22; simpa using this)
  have B0 := Lib.hid (show Below w.heap.size w ((w.alloc (.cells #[.int .i64 a, .int .i64 b, .int .i64 c] 23)).alloc (.cells #[.int .i64 r0, .int .i64 r1, .int .i64 r2] 22)) from (bel_alloc1 w _).alloc (by simp) _)
  go_enter Tryd.func4, Tryd.ntmps4
  go_upto_region 1 with fail
  generalize World.alloc (World.alloc w _) _ = W0 at A0 R0 B0 ⊢
  go_upto_region 3 with (go_at_call 6; refine (sane43_any _ (Lib.hid (hk.out.below B0.out))).mono ?_; rintro r u1 ⟨rfl, hb⟩; have B1 := Lib.hid (bel_trans B0.out hb); have A1 := Lib.hid (A0.out.below hb A0.out.lt); have R1 := Lib.hid (R0.out.below hb R0.out.lt); clear hb)
  go_wp2_with (first
    | (go_at_call 9; refine (HM.out _ B1.out).mono ?_; rintro r u2 ⟨rfl, hb⟩; have B2 := Lib.hid (bel_trans B1.out hb); have A2 := Lib.hid (A1.out.below hb A1.out.lt); have R2 := Lib.hid (R1.out.below hb R1.out.lt); clear hb)
    | (refine list_storeR rfl (.tmp 15) (.tmp 33) rfl u2.heap.size rfl ml mk ma mb ms rfl hm.out 0 0 0 0 (List.replicate 32 0) (RBlk.new u2) ?_))
  intro u3 q3 k3
  have hb := (bel_alloc1 u2 _).trans (k3.below (Nat.le_refl _))
  have X3 := Lib.hid q3
  clear q3 k3
  have B3 := Lib.hid (bel_trans B2.out hb)
  have A3 := Lib.hid (A2.out.below hb A2.out.lt)
  have R3 := Lib.hid (R2.out.below hb R2.out.lt)
  clear hb
  obtain ⟨xb, hxb⟩ : ∃ q, u2.heap.size = q := ⟨_, rfl⟩
  rw [hxb] at X3 ⊢
  clear hxb
  go_upto_region 4 with fail
  have a0 := A3.out.cell 0
  have a1 := A3.out.cell 1
  have a2 := A3.out.cell 2
  have r0c := R3.out.cell 0
  have r1c := R3.out.cell 1
  have r2c := R3.out.cell 2
  go_upto_region 5 with (first
    | (refine list_loadR (by rfl) (.tmp 15) rfl xb rfl ml mk ma mb ms X3.out ?_)
    | (go_at_call 10; refine (HR.out _ B3.out).mono ?_; rintro r u4 ⟨rfl, hb⟩; have B4 := Lib.hid (bel_trans B3.out hb); have A4 := Lib.hid (A3.out.below hb A3.out.lt); have R4 := Lib.hid (R3.out.below hb R3.out.lt); have X4 := Lib.hid (X3.out.bel hb); clear hb a0 a1 a2 r0c r1c r2c))
  have hb := bel_alloc1 u4 (.cells #[.int .i64 0, .int .i64 0, .int .i64 0, .int .i64 0, .int .i64 0, .int .i64 0] 39)
  have S5 := Lib.hid (Blk.new u4 #[.int .i64 0, .int .i64 0, .int .i64 0, .int .i64 0, .int .i64 0, .int .i64 0] 39)
  generalize World.alloc u4 _ = u5 at hb S5 ⊢
  have B5 := Lib.hid (bel_trans B4.out hb)
  have A5 := Lib.hid (A4.out.below hb A4.out.lt)
  have R5 := Lib.hid (R4.out.below hb R4.out.lt)
  have X5 := Lib.hid (X4.out.bel hb)
  clear hb
  generalize u4.heap.size = sb at S5 ⊢
  have s0 := S5.out.cell 0
  have s1 := S5.out.cell 1
  have s2 := S5.out.cell 2
  have s3 := S5.out.cell 3
  have s4 := S5.out.cell 4
  have s5 := S5.out.cell 5
  go_wp2_with fail
  go_ret
  exact ⟨rfl, B5.out⟩
set_option maxRecDepth 100000 in
set_option maxHeartbeats 8000000 in
theorem like_main (sec a b c line key alias nonce r0 r1 r2 : Int) (w : World) (hk : Hid (KeysAt w)) (ml mk ma mb : Int) (ms : List Int) (hm : Hid (ms.length = 32)) (A B a1 b1 a2 b2 : Int) (HM : Hid (∀ q : World, Below w.heap.size w q → Calls Tryd.prog 9 #[.int .i64 line, .int .i64 key, .int .i64 alias, .int .i64 nonce] q fun e w' => e = .returned (.tuple #[.agg (rtv ml mk ma mb ms).toArray, .int .i64 0]) ∧ Below q.heap.size q w')) (HR : Hid (∀ q : World, Below w.heap.size w q → Calls Tryd.prog 10 #[.int .i64 sec, .agg #[.int .i64 a, .int .i64 b, .int .i64 c], .agg (rtv ml mk ma mb ms).toArray, .agg #[.int .i64 r0, .int .i64 r1, .int .i64 r2]] q fun e w' => e = .returned (.tuple #[sealedV A B a1 b1 a2 b2, .int .i64 0]) ∧ Below q.heap.size q w')) (hok : Hid (∀ q ∈ intsA [a, b, c], q.ok)) (t0 : 1 ≤ sec) (t1 : sec < 1073741789) (e0 e1 : Int) (hsig : Hid (IsSig sec (ltx a b c) e0 e1)) (he0 : 0 ≤ e0 ∧ e0 < 1073741789) (he1 : 0 ≤ e1 ∧ e1 < 1073741789) (nm rm : Int) (hnm : Int.tmod nonce 1073741789 = nm) (hrm : Int.tmod r0 1073741789 = rm) (bnm : -1073741789 < nm ∧ nm < 1073741789) (brm : -1073741789 < rm ∧ rm < 1073741789) (HE : Hid (∀ q : World, Below w.heap.size w q → Calls Tryd.prog 16 #[.int .i64 key, .agg #[.int .i64 alias, .int .i64 (e0 + 1), .int .i64 (e1 + 1)], .agg #[.int .i64 (nm + rm), .int .i64 r1, .int .i64 r2]] q fun e w' => e = .returned (.tuple #[sealedV A B a1 b1 a2 b2, .int .i64 0]) ∧ Below q.heap.size q w')) :
    Calls Tryd.prog 4 #[.int .i64 sec, .agg #[.int .i64 a, .int .i64 b, .int .i64 c], .int .i64 line, .int .i64 key, .int .i64 alias, .int .i64 nonce, .agg #[.int .i64 r0, .int .i64 r1, .int .i64 r2]] w fun r w' => r = .returned (.bool true) ∧ Below w.heap.size w w' := by
  have A0 := Lib.hid ((Blk.new w #[.int .i64 a, .int .i64 b, .int .i64 c] 23).alloc (.cells #[.int .i64 r0, .int .i64 r1, .int .i64 r2] 22))
  have R0 := Lib.hid (show Blk ((w.alloc (.cells #[.int .i64 a, .int .i64 b, .int .i64 c] 23)).alloc (.cells #[.int .i64 r0, .int .i64 r1, .int .i64 r2] 22)) (w.heap.size + 1) #[.int .i64 r0, .int .i64 r1, .int .i64 r2] 22 by have := Blk.new (w.alloc (.cells #[.int .i64 a, .int .i64 b, .int .i64 c] 23)) #[.int .i64 r0, .int .i64 r1, .int .i64 r2] 22; simpa using this)
  have B0 := Lib.hid (show Below w.heap.size w ((w.alloc (.cells #[.int .i64 a, .int .i64 b, .int .i64 c] 23)).alloc (.cells #[.int .i64 r0, .int .i64 r1, .int .i64 r2] 22)) from (bel_alloc1 w _).alloc (by simp) _)
  go_enter Tryd.func4, Tryd.ntmps4
  go_upto_region 1 with fail
  generalize World.alloc (World.alloc w _) _ = W0 at A0 R0 B0 ⊢
  go_upto_region 3 with (go_at_call 6; refine (sane43_any _ (Lib.hid (hk.out.below B0.out))).mono ?_; rintro r u1 ⟨rfl, hb⟩; have B1 := Lib.hid (bel_trans B0.out hb); have A1 := Lib.hid (A0.out.below hb A0.out.lt); have R1 := Lib.hid (R0.out.below hb R0.out.lt); clear hb)
  go_wp2_with (first
    | (go_at_call 9; refine (HM.out _ B1.out).mono ?_; rintro r u2 ⟨rfl, hb⟩; have B2 := Lib.hid (bel_trans B1.out hb); have A2 := Lib.hid (A1.out.below hb A1.out.lt); have R2 := Lib.hid (R1.out.below hb R1.out.lt); clear hb)
    | (refine list_storeR rfl (.tmp 15) (.tmp 33) rfl u2.heap.size rfl ml mk ma mb ms rfl hm.out 0 0 0 0 (List.replicate 32 0) (RBlk.new u2) ?_))
  intro u3 q3 k3
  have hb := (bel_alloc1 u2 _).trans (k3.below (Nat.le_refl _))
  have X3 := Lib.hid q3
  clear q3 k3
  have B3 := Lib.hid (bel_trans B2.out hb)
  have A3 := Lib.hid (A2.out.below hb A2.out.lt)
  have R3 := Lib.hid (R2.out.below hb R2.out.lt)
  clear hb
  obtain ⟨xb, hxb⟩ : ∃ q, u2.heap.size = q := ⟨_, rfl⟩
  rw [hxb] at X3 ⊢
  clear hxb
  go_upto_region 4 with fail
  have a0 := A3.out.cell 0
  have a1 := A3.out.cell 1
  have a2 := A3.out.cell 2
  have r0c := R3.out.cell 0
  have r1c := R3.out.cell 1
  have r2c := R3.out.cell 2
  go_upto_region 5 with (first
    | (refine list_loadR (by rfl) (.tmp 15) rfl xb rfl ml mk ma mb ms X3.out ?_)
    | (go_at_call 10; refine (HR.out _ B3.out).mono ?_; rintro r u4 ⟨rfl, hb⟩; have B4 := Lib.hid (bel_trans B3.out hb); have A4 := Lib.hid (A3.out.below hb A3.out.lt); have R4 := Lib.hid (R3.out.below hb R3.out.lt); have X4 := Lib.hid (X3.out.bel hb); clear hb a0 a1 a2 r0c r1c r2c))
  have hb := bel_alloc1 u4 (.cells #[.int .i64 A, .int .i64 B, .int .i64 a1, .int .i64 b1, .int .i64 a2, .int .i64 b2] 39)
  have S5 := Lib.hid (Blk.new u4 #[.int .i64 A, .int .i64 B, .int .i64 a1, .int .i64 b1, .int .i64 a2, .int .i64 b2] 39)
  generalize World.alloc u4 _ = u5 at hb S5 ⊢
  have B5 := Lib.hid (bel_trans B4.out hb)
  have A5 := Lib.hid (A4.out.below hb A4.out.lt)
  have R5 := Lib.hid (R4.out.below hb R4.out.lt)
  have X5 := Lib.hid (X4.out.bel hb)
  clear hb
  generalize u4.heap.size = sb at S5 ⊢
  have s0 := S5.out.cell 0
  have s1 := S5.out.cell 1
  have s2 := S5.out.cell 2
  have s3 := S5.out.cell 3
  have s4 := S5.out.cell 4
  have s5 := S5.out.cell 5
  have a0 := A5.out.cell 0
  have a1 := A5.out.cell 1
  have a2 := A5.out.cell 2
  go_upto_region 8 with (go_at_call 14; refine (enc3_is a b c _ hok).mono ?_; rintro r u6 ⟨p, cp, rfl, hz, hb⟩; have Z6 := Lib.hid hz; have B6 := Lib.hid (bel_trans B5.out hb); have R6 := Lib.hid (R5.out.below hb R5.out.lt); have S6 := Lib.hid (S5.out.below hb S5.out.lt); clear hz hb a0 a1 a2 s0 s1 s2 s3 s4 s5)
  go_upto_region 9 with (go_at_call 15; refine (sign_yes sec p _ cp (ltx a b c) _ t0 t1 (Lib.hid (ltx_ok hok.out)) (Lib.hid (.inl Z6.out)) (Lib.hid (hk.out.below B6.out)) e0 e1 hsig).mono ?_; rintro r u7 ⟨rfl, hb⟩; have B7 := Lib.hid (bel_trans B6.out hb); have R7 := Lib.hid (R6.out.below hb R6.out.lt); have S7 := Lib.hid (S6.out.below hb S6.out.lt); clear hb)
  have hb := bel_alloc1 u7 (.cells #[.int .i64 e0, .int .i64 e1] 54)
  have G8 := Lib.hid (Blk.new u7 #[.int .i64 e0, .int .i64 e1] 54)
  generalize World.alloc u7 _ = u8 at hb G8 ⊢
  have B8 := Lib.hid (bel_trans B7.out hb)
  have R8 := Lib.hid (R7.out.below hb R7.out.lt)
  have S8 := Lib.hid (S7.out.below hb S7.out.lt)
  clear hb
  generalize u7.heap.size = gb at G8 ⊢
  have g0 := G8.out.cell 0
  have g1 := G8.out.cell 1
  have c0 := R8.out.cell 0
  have c1 := R8.out.cell 1
  have c2 := R8.out.cell 2
  go_upto_region 10 with (go_at_call 16; refine (HE.out _ B8.out).mono ?_; rintro r u9 ⟨rfl, hb⟩; have B9 := Lib.hid (bel_trans B8.out hb); have S9 := Lib.hid (S8.out.below hb S8.out.lt); clear hb g0 g1 c0 c1 c2)
  have hb := bel_alloc1 u9 (.cells #[.int .i64 A, .int .i64 B, .int .i64 a1, .int .i64 b1, .int .i64 a2, .int .i64 b2] 39)
  have T10 := Lib.hid (Blk.new u9 #[.int .i64 A, .int .i64 B, .int .i64 a1, .int .i64 b1, .int .i64 a2, .int .i64 b2] 39)
  generalize World.alloc u9 _ = u10 at hb T10 ⊢
  have B10 := Lib.hid (bel_trans B9.out hb)
  have S10 := Lib.hid (S9.out.below hb S9.out.lt)
  clear hb
  generalize u9.heap.size = tb at T10 ⊢
  have s0 := S10.out.cell 0
  have s1 := S10.out.cell 1
  have s2 := S10.out.cell 2
  have s3 := S10.out.cell 3
  have s4 := S10.out.cell 4
  have s5 := S10.out.cell 5
  have t0c := T10.out.cell 0
  have t1c := T10.out.cell 1
  have t2c := T10.out.cell 2
  have t3c := T10.out.cell 3
  have t4c := T10.out.cell 4
  have t5c := T10.out.cell 5
  go_wp2_with fail
  go_ret
  exact ⟨rfl, B10.out⟩
theorem cip_congr {key e t u a b : Int} (h : IsCip key e t a b) (hu : u % 1073741789 = t % 1073741789) : IsCip key e u a b := ⟨by rw [powZ_congr 4 hu]; exact h.ha, by rw [powZ_congr key hu]; exact h.hb⟩
theorem tmod_emod_c (n : Int) : (Int.tmod n 1073741789) % 1073741789 = n % 1073741789 := by
  have h := Int.mul_tdiv_add_tmod n 1073741789
  omega
theorem tmod_rng (n : Int) : -1073741789 < Int.tmod n 1073741789 ∧ Int.tmod n 1073741789 < 1073741789 := by
  have h1 := Int.tmod_lt_of_pos n (show (0 : Int) < 1073741789 by omega)
  have h2 := Int.lt_tmod_of_pos n (show (0 : Int) < 1073741789 by omega)
  omega
theorem tmod_sum (m n : Int) : (Int.tmod m 1073741789 + Int.tmod n 1073741789) % 1073741789 = (m + n) % 1073741789 := by
  rw [Int.add_emod, tmod_emod_c, tmod_emod_c, ← Int.add_emod]
set_option maxHeartbeats 2000000 in
theorem like_walk (sec a b c line key alias nonce r0 r1 r2 : Int) (w : World) (hk : Hid (KeysAt w)) (hok : Hid (∀ q ∈ intsA [a, b, c], q.ok)) :
    Calls Tryd.prog 4 #[.int .i64 sec, .agg #[.int .i64 a, .int .i64 b, .int .i64 c], .int .i64 line, .int .i64 key, .int .i64 alias, .int .i64 nonce, .agg #[.int .i64 r0, .int .i64 r1, .int .i64 r2]] w fun r w' => r = .returned (.bool true) ∧ Below w.heap.size w w' := by
  obtain ⟨e0, e1, hsig⟩ := isSig sec (ltx a b c)
  have er := hsig.rng
  have w0 : wordB (e0 + 1) = true := by unfold wordB; simp; omega
  have w1 : wordB (e1 + 1) = true := by unfold wordB; simp; omega
  have HS := Lib.hid hsig
  have HRZ := Lib.hid (show IsRC 0 0 0 0 (List.replicate 32 0) 160 from .inl ⟨by unfold partB; rw [elB_0]; simp, rfl⟩)
  have K : ∀ q : World, Below w.heap.size w q → Hid (KeysAt q) := fun q hq => Lib.hid (hk.out.below hq)
  cases hl : lineB line with
  | false =>
    have HM := Lib.hid (fun q (hq : Below w.heap.size w q) => omake_line line key alias nonce q (Lib.hid hl))
    by_cases hs : sec < 1 ∨ 1073741789 ≤ sec
    · exact like_e160_110 sec a b c line key alias nonce r0 r1 r2 w hk 0 0 0 0 (List.replicate 32 0) (Lib.hid rfl) HM (Lib.hid fun q hq => recMake_key sec a b c 0 0 0 0 (List.replicate 32 0) r0 r1 r2 q (Lib.hid rfl) hok (K q hq) hs)
    cases hw : [a, b, c].all wordB with
    | false => exact like_e160_430 sec a b c line key alias nonce r0 r1 r2 w hk 0 0 0 0 (List.replicate 32 0) (Lib.hid rfl) HM (Lib.hid fun q hq => recMake_rec sec a b c 0 0 0 0 (List.replicate 32 0) r0 r1 r2 q (Lib.hid rfl) hok (K q hq) (by omega) (by omega) e0 e1 HS (Lib.hid hw))
    | true => exact like_e160_160 sec a b c line key alias nonce r0 r1 r2 w hk 0 0 0 0 (List.replicate 32 0) (Lib.hid rfl) HM (Lib.hid fun q hq => recMake_use sec a b c 0 0 0 0 (List.replicate 32 0) r0 r1 r2 q (Lib.hid rfl) hok (K q hq) (by omega) (by omega) e0 e1 HS (Lib.hid hw) er.1 er.2 0 0 0 0 0 0 160 (Lib.hid fun g hg => ouse_ret 0 0 0 0 (List.replicate 32 0) (e0 + 1) (e1 + 1) r0 r1 r2 g (Lib.hid rfl) (Lib.hid ((K q hq).out.below hg)) HRZ))
  | true =>
    cases hy : elB key with
    | false =>
      have HM := Lib.hid (fun q (hq : Below w.heap.size w q) => omake_key line key alias nonce q (Lib.hid hl) (Lib.hid hy))
      by_cases hs : sec < 1 ∨ 1073741789 ≤ sec
      · exact like_e90_110 sec a b c line key alias nonce r0 r1 r2 w hk 0 0 0 0 (List.replicate 32 0) (Lib.hid rfl) HM (Lib.hid fun q hq => recMake_key sec a b c 0 0 0 0 (List.replicate 32 0) r0 r1 r2 q (Lib.hid rfl) hok (K q hq) hs)
      cases hw : [a, b, c].all wordB with
      | false => exact like_e90_430 sec a b c line key alias nonce r0 r1 r2 w hk 0 0 0 0 (List.replicate 32 0) (Lib.hid rfl) HM (Lib.hid fun q hq => recMake_rec sec a b c 0 0 0 0 (List.replicate 32 0) r0 r1 r2 q (Lib.hid rfl) hok (K q hq) (by omega) (by omega) e0 e1 HS (Lib.hid hw))
      | true => exact like_e90_160 sec a b c line key alias nonce r0 r1 r2 w hk 0 0 0 0 (List.replicate 32 0) (Lib.hid rfl) HM (Lib.hid fun q hq => recMake_use sec a b c 0 0 0 0 (List.replicate 32 0) r0 r1 r2 q (Lib.hid rfl) hok (K q hq) (by omega) (by omega) e0 e1 HS (Lib.hid hw) er.1 er.2 0 0 0 0 0 0 160 (Lib.hid fun g hg => ouse_ret 0 0 0 0 (List.replicate 32 0) (e0 + 1) (e1 + 1) r0 r1 r2 g (Lib.hid rfl) (Lib.hid ((K q hq).out.below hg)) HRZ))
    | true =>
      cases ha : wordB alias with
      | false =>
        have HM := Lib.hid (fun q (hq : Below w.heap.size w q) => omake_word line key alias nonce q (Lib.hid hl) (Lib.hid hy) (Lib.hid ha))
        by_cases hs : sec < 1 ∨ 1073741789 ≤ sec
        · exact like_e160_110 sec a b c line key alias nonce r0 r1 r2 w hk 0 0 0 0 (List.replicate 32 0) (Lib.hid rfl) HM (Lib.hid fun q hq => recMake_key sec a b c 0 0 0 0 (List.replicate 32 0) r0 r1 r2 q (Lib.hid rfl) hok (K q hq) hs)
        cases hw : [a, b, c].all wordB with
        | false => exact like_e160_430 sec a b c line key alias nonce r0 r1 r2 w hk 0 0 0 0 (List.replicate 32 0) (Lib.hid rfl) HM (Lib.hid fun q hq => recMake_rec sec a b c 0 0 0 0 (List.replicate 32 0) r0 r1 r2 q (Lib.hid rfl) hok (K q hq) (by omega) (by omega) e0 e1 HS (Lib.hid hw))
        | true => exact like_e160_160 sec a b c line key alias nonce r0 r1 r2 w hk 0 0 0 0 (List.replicate 32 0) (Lib.hid rfl) HM (Lib.hid fun q hq => recMake_use sec a b c 0 0 0 0 (List.replicate 32 0) r0 r1 r2 q (Lib.hid rfl) hok (K q hq) (by omega) (by omega) e0 e1 HS (Lib.hid hw) er.1 er.2 0 0 0 0 0 0 160 (Lib.hid fun g hg => ouse_ret 0 0 0 0 (List.replicate 32 0) (e0 + 1) (e1 + 1) r0 r1 r2 g (Lib.hid rfl) (Lib.hid ((K q hq).out.below hg)) HRZ))
      | true =>
        obtain ⟨xa, xb, hc⟩ := isCip key (elmZ alias) nonce
        obtain ⟨ds, hds⟩ := isTag line key xa xb
        have HL := Lib.hid hds.len
        have ce := cip_el hy (elm_el ha) hc
        have HRC := Lib.hid (show IsRC line key xa xb ds 0 from .inr ⟨partB_iff.2 ⟨hl, hy, ce.1, ce.2⟩, ds, hds, .inl ⟨rfl, rfl⟩⟩)
        have HM := Lib.hid (fun q (hq : Below w.heap.size w q) => omake_ok line key alias nonce q (Lib.hid hl) (Lib.hid hy) (Lib.hid ha) xa xb ds (Lib.hid hc) (Lib.hid hds) (K q hq))
        by_cases hs : sec < 1 ∨ 1073741789 ≤ sec
        · exact like_e0_110 sec a b c line key alias nonce r0 r1 r2 w hk line key xa xb ds HL HM (Lib.hid fun q hq => recMake_key sec a b c line key xa xb ds r0 r1 r2 q HL hok (K q hq) hs)
        cases hw : [a, b, c].all wordB with
        | false => exact like_e0_430 sec a b c line key alias nonce r0 r1 r2 w hk line key xa xb ds HL HM (Lib.hid fun q hq => recMake_rec sec a b c line key xa xb ds r0 r1 r2 q HL hok (K q hq) (by omega) (by omega) e0 e1 HS (Lib.hid hw))
        | true =>
          obtain ⟨a0, b0, h0⟩ := isCip key (elmZ 1) r0
          obtain ⟨a1, b1, h1⟩ := isCip key (elmZ (e0 + 1)) r1
          obtain ⟨a2, b2, h2⟩ := isCip key (elmZ (e1 + 1)) r2
          obtain ⟨A, hA⟩ : ∃ A, mulZ xa a0 = A := ⟨_, rfl⟩
          obtain ⟨B, hB⟩ : ∃ B, mulZ xb b0 = B := ⟨_, rfl⟩
          have hAB := sealed_cip hy (elm_el ha) hc h0
          rw [hA, hB] at hAB
          have hAB2 := cip_congr hAB (tmod_sum nonce r0)
          exact like_main sec a b c line key alias nonce r0 r1 r2 w hk line key xa xb ds HL A B a1 b1 a2 b2 HM (Lib.hid fun q hq => recMake_use sec a b c line key xa xb ds r0 r1 r2 q HL hok (K q hq) (by omega) (by omega) e0 e1 HS (Lib.hid hw) er.1 er.2 A B a1 b1 a2 b2 0 (Lib.hid fun g hg => ouse_ok line key xa xb ds (e0 + 1) (e1 + 1) r0 r1 r2 g HL (Lib.hid ((K q hq).out.below hg)) HRC (Lib.hid w0) (Lib.hid w1) (Lib.hid hy) (Lib.hid ⟨by decide, w0, w1⟩) a0 b0 a1 b1 a2 b2 A B (Lib.hid h0) (Lib.hid h1) (Lib.hid h2) (Lib.hid hA) (Lib.hid hB))) hok (by omega) (by omega) e0 e1 HS er.1 er.2 _ _ rfl rfl (tmod_rng _) (tmod_rng _) (Lib.hid fun q hq => seal_is key alias (e0 + 1) (e1 + 1) (Int.tmod nonce 1073741789 + Int.tmod r0 1073741789) r1 r2 A B a1 b1 a2 b2 q (Lib.hid hy) (Lib.hid ⟨ha, w0, w1⟩) (Lib.hid hAB2) (Lib.hid h1) (Lib.hid h2))

namespace receiptsLike
theorem readable : ∀ t ∈ Tryd.f4.params.toList, Tryd.prog.readableRec t = true ∧ t < Tryd.prog.types.size := by
  rw [Tryd.params4]
  intro t ht
  simp only [List.mem_cons, List.not_mem_nil, or_false] at ht
  rcases ht with rfl | rfl | rfl | rfl | rfl | rfl | rfl
  all_goals exact ⟨by kernel_rfl, by decide +kernel⟩

set_option maxRecDepth 100000 in
theorem lifted (os : Os) (started : os.Started) (H : Type) (enc : TypeId × Value → H) :
    ReturnsInHanded {} Tryd.checked os 4 .any (fun w args => (Rows.receiptsLikeSpec.pre enc Tryd.prog Tryd.f4 [] false w args ∧ laidMetH Tryd.prog laidK w) ∧ sizedMet enc Tryd.prog Tryd.f4 (OpenSpec.ofChange Rows.receiptsLikeSpec) false w args)
      (Rows.receiptsLikeSpec.post enc Tryd.prog Tryd.f4 false true false false) := by
  refine returnsInHanded_of_change_and (C := Tryd.checked) (X := fun w _ => laidMetH Tryd.prog laidK w) (fun _ _ _ hh h => h.of_heap hh) own_knob started (by kernel_rfl) Tryd.func4
    (ChangeSpec.witness_shaped (enc := enc) (C := Tryd.checked) (os := os) (X := fun w _ => laidMetH Tryd.prog laidK w) false (World.doorLaid Tryd.prog 400 os) #[.int .i64 0, .agg #[.int .i64 0, .int .i64 0, .int .i64 0], .int .i64 0, .int .i64 0, .int .i64 0, .int .i64 0, .agg #[.int .i64 0, .int .i64 0, .int .i64 0]] 8 rfl (World.shaped_of_RefB (by kernel_rfl) (by kernel_rfl)) (by kernel_rfl) (by kernel_rfl) (by kernel_rfl) (door_met os _)) ?_
  intro W base args ds gs before hval0 hW _ _ hL _
  have hval : ∀ (j : Nat) t v, Tryd.f4.params[j]? = some t → args[j]? = some v → Value.okWide Tryd.prog W .any base t v := hval0
  have hW' := hW
  obtain ⟨p, q, hA0, hV, rfl, hfz, hnd⟩ := hW
  have hA : DataW.TrodAll enc Tryd.prog W 0 (fun _ => true) true Tryd.f4.params.toList args.toList ds p := hA0
  rw [Tryd.params4] at hA hval
  obtain ⟨v0, vs0, d0, ds0, p0, q0, hargs, rfl, rfl, h0, r0⟩ := trodAll_cons hA
  obtain ⟨v1, vs1, d1, ds1, p1, q1, rfl, rfl, rfl, h1, r1⟩ := trodAll_cons r0
  obtain ⟨v2, vs2, d2, ds2, p2, q2, rfl, rfl, rfl, h2, r2⟩ := trodAll_cons r1
  obtain ⟨v3, vs3, d3, ds3, p3, q3, rfl, rfl, rfl, h3, r3⟩ := trodAll_cons r2
  obtain ⟨v4, vs4, d4, ds4, p4, q4, rfl, rfl, rfl, h4, r4⟩ := trodAll_cons r3
  obtain ⟨v5, vs5, d5, ds5, p5, q5, rfl, rfl, rfl, h5, r5⟩ := trodAll_cons r4
  obtain ⟨v6, vs6, d6, ds6, p6, q6, rfl, rfl, rfl, h6, r6⟩ := trodAll_cons r5
  obtain ⟨rfl, rfl, rfl⟩ := trodAll_nil r6
  obtain rfl : args = #[v0, v1, v2, v3, v4, v5, v6] := by cases args; simp_all
  obtain ⟨rfl, rfl⟩ := trodVars_none hV
  obtain ⟨a0, rfl, rfl, rfl, w0⟩ := open_int Tryd.underlying3 (hval 0 3 v0 rfl rfl) h0
  obtain ⟨a1, b1, c1, rfl, w1, x1, y1⟩ := open_arr3 Tryd.underlying23 Tryd.underlying3 (by kernel_rfl) (by kernel_rfl) (hval 1 23 v1 rfl rfl) h1
  obtain ⟨a2, rfl, rfl, rfl, w2⟩ := open_int Tryd.underlying3 (hval 2 3 v2 rfl rfl) h2
  obtain ⟨a3, rfl, rfl, rfl, w3⟩ := open_int Tryd.underlying3 (hval 3 3 v3 rfl rfl) h3
  obtain ⟨a4, rfl, rfl, rfl, w4⟩ := open_int Tryd.underlying3 (hval 4 3 v4 rfl rfl) h4
  obtain ⟨a5, rfl, rfl, rfl, w5⟩ := open_int Tryd.underlying3 (hval 5 3 v5 rfl rfl) h5
  obtain ⟨a6, b6, c6, rfl, w6, x6, y6⟩ := open_arr3 Tryd.underlying22 Tryd.underlying3 (by kernel_rfl) (by kernel_rfl) (hval 6 22 v6 rfl rfl) h6
  have hK := of_laid hL
  clear hA0 hval0
  refine (like_walk a0 a1 b1 c1 a2 a3 a4 a5 a6 b6 c6 W (Lib.hid hK) (Lib.hid (ints3 (bounds_i64 w1) (bounds_i64 x1) (bounds_i64 y1)))).mono fun e W' ⟨he, hb⟩ => ?_
  subst he
  exact ⟨_, rfl, law_post laid_out readable rfl rfl Tryd.underlying4 hW' rfl rfl rfl hb⟩

theorem over : Rows.receiptsLikeRow.holds Tryd.pinned (OpenSpec.ofChange Rows.receiptsLikeSpec) :=
  OpenClaim.holds_of_wide 4 Tryd.f4 rfl rfl rfl rfl rfl rfl rfl ⟨rfl, rfl, rfl, rfl, rfl⟩ rfl rfl rfl rfl rfl (by kernel_rfl) Tryd.func4 (by kernel_rfl)
    (of_decide_eq_true (by kernel_rfl)) (by unfold Func.isWrapper; first | (rw [if_pos (by decide +kernel)]; kernel_rfl) | (rw [if_neg (by decide +kernel)]; exact ⟨rfl, rfl⟩))
    (fun os started H enc _ => lifted os started H enc)

/-- the statement: the tied card -/
theorem proved : Rows.ReceiptsLikeCardSaid :=
  Claim7.holds_tied_plain_at .later [] [.data] true (true, "6a74bf4fb0f8714b97243300452f04d842f8285a55243ab119fe20efcdbd8f15") true
    over (fun _ h => by cases h) (by kernel_rfl) (fun _ h => by cases h) receiptsLike_row_tie rfl ⟨rfl, rfl⟩ (by kernel_rfl) rfl
    (fun f fn hf hfn => by
      obtain rfl : f = 4 := Option.some.inj ((show Tryd.prog.funcNamed "franking/frankinglaw43.ReceiptsLike" = some 4 by kernel_rfl).symm.trans hf) |>.symm
      obtain rfl : fn = Tryd.f4 := (Option.some.inj (Tryd.func4.symm.trans hfn)).symm
      exact ⟨by kernel_rfl, fun j t ht => by
        rw [Tryd.params4] at ht
        have hm : t ∈ [3, 23, 3, 3, 3, 3, 22] := by simpa using Array.mem_of_getElem? ht
        have hall : ([3, 23, 3, 3, 3, 3, 22].all fun u => !Tryd.prog.wantsStandIn u) = true := by kernel_rfl
        exact (show Tryd.prog.wantsStandIn t = false by simpa using List.all_eq_true.1 hall t hm)⟩)
    (by kernel_rfl)
end receiptsLike
end Go.Proofs.YtpjobllfiimdkaaDoor
