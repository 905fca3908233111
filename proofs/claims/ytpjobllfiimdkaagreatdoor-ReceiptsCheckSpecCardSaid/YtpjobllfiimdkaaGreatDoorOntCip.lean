/- Package onetime: ciphers. -/
import Derived.Test.YtpjobllfiimdkaaGreatDoorOntZB
import Derived.Test.YtpjobllfiimdkaaGreatDoorRegP
namespace Go.Proofs.YtpjobllfiimdkaaGreatDoor
open Go.RowKit Go.Shelf
set_option linter.unusedVariables false
set_option linter.unusedSimpArgs false
attribute [local go_sem] Oper.semAt_some

def KeepsB (s : Nat) (W W' : World) : Prop := W'.heap[s]? = W.heap[s]?
theorem keepsB_t {s : Nat} {A B C : World} (h : KeepsB s A B) (k : KeepsB s B C) : KeepsB s A C := Eq.trans k h
theorem grown_of_below {W W' : World} (h : Below W.heap.size W W') : W.grownBy W' none := ⟨h.os, h.tape, h.output, h.size, fun k hk _ => h.block k hk⟩
set_option maxHeartbeats 1000000 in
theorem ocip_fn (l k a b : Int) (zs : List Int) (a0 b0 a1 b1 a2 b2 : Int) (n : Nat) (w : World) (hn : w.heap.size = n) (hz : Hid (zs.length = 32)) :
    Calls Tryz.prog 47 #[.agg (rtv l k a b zs).toArray, sealedV a0 b0 a1 b1 a2 b2] w
      fun e w' => e = .returned (.func (.func 76) #[] #[.pointer (some ⟨n, 0, none⟩), .pointer (some ⟨n + 1, 0, none⟩)]) ∧ Below w.heap.size w w' ∧ RBlk w' n l k a b zs ∧ Blk w' (n + 1) #[.int .i64 a0, .int .i64 b0, .int .i64 a1, .int .i64 b1, .int .i64 a2, .int .i64 b2] 32 := by
  subst hn
  have X0 := Lib.hid ((RBlk.box w l k a b hz.out).alloc (.cells #[.int .i64 a0, .int .i64 b0, .int .i64 a1, .int .i64 b1, .int .i64 a2, .int .i64 b2] 32))
  have S0 := Lib.hid (show Blk ((w.alloc (.cells (rtv l k a b zs).toArray 29)).alloc (.cells #[.int .i64 a0, .int .i64 b0, .int .i64 a1, .int .i64 b1, .int .i64 a2, .int .i64 b2] 32)) (w.heap.size + 1) #[.int .i64 a0, .int .i64 b0, .int .i64 a1, .int .i64 b1, .int .i64 a2, .int .i64 b2] 32 by have := Blk.new (w.alloc (.cells (rtv l k a b zs).toArray 29)) #[.int .i64 a0, .int .i64 b0, .int .i64 a1, .int .i64 b1, .int .i64 a2, .int .i64 b2] 32; simpa using this)
  have B0 := Lib.hid (show Below w.heap.size w ((w.alloc (.cells (rtv l k a b zs).toArray 29)).alloc (.cells #[.int .i64 a0, .int .i64 b0, .int .i64 a1, .int .i64 b1, .int .i64 a2, .int .i64 b2] 32)) from (bel_alloc1 w _).alloc (by simp) _)
  go_enter Tryz.func47, Tryz.ntmps47
  go_wp2_with fail
  go_ret
  exact ⟨rfl, B0.out, X0.out, S0.out⟩
set_option maxRecDepth 100000 in
set_option maxHeartbeats 4000000 in
theorem ociphers_stops (l k a b : Int) (zs : List Int) (a0 b0 a1 b1 a2 b2 A B : Int) (hA : Hid (mulZ a a0 = A)) (hB : Hid (mulZ b b0 = B)) (m : Nat) (hm : 1 ≤ m) (rb sb : Nat) (w : World) (hR : Hid (RBlk w rb l k a b zs)) (hS : Hid (Blk w sb #[.int .i64 a0, .int .i64 b0, .int .i64 a1, .int .i64 b1, .int .i64 a2, .int .i64 b2] 32)) :
    SeqStopsK Fence.wide m Tryz.prog 76 #[.pointer (some ⟨rb, 0, none⟩), .pointer (some ⟨sb, 0, none⟩)] cEnc (KeepsB sb)
      (fun xs => xs = [(0, A, B), (1, a1, b1), (2, a2, b2)]) (fun pre => pre <+: [(0, A, B), (1, a1, b1), (2, a2, b2)]) 3 w := fun l' J Jx W hW hJ hJx hY h0 => by
  have R0 := Lib.hid (hR.out.bel hW)
  have S0 := Lib.hid (hS.out.below hW hS.out.lt)
  have HJ := Lib.hid hJ
  have HJX := Lib.hid hJx
  have HY := Lib.hid hY
  have H0 := Lib.hid h0
  clear hW hR hS hJ hJx hY h0
  refine callsIn_of_wp Tryz.func76 rfl trivial ?_ rfl
  simp only [Tryz.ntmps76, List.size_toArray, List.length_cons, List.length_nil, Nat.reduceAdd, Nat.reduceSub, Array.replicate_succ, Array.replicate_zero, List.push_toArray, List.append_toArray, List.nil_append, List.cons_append]
  refine wpIn_seq ?_
  refine wpIn_wide.2 ?_
  refine wp_region_any (by kernel_rfl) ?_
  change wpAny _ _ _ _ _ _ _ (World.drew _)
  generalize hWD : World.drew _ = V
  have R1 := Lib.hid (show RBlk V rb l k a b zs by rw [← hWD]; exact R0.out)
  have S1 := Lib.hid (show Blk V sb #[.int .i64 a0, .int .i64 b0, .int .i64 a1, .int .i64 b1, .int .i64 a2, .int .i64 b2] 32 by rw [← hWD]; exact S0.out)
  have B1 := Lib.hid (show Below W.heap.size W V by rw [← hWD]; exact (Below.refl _ _).drew)
  clear hWD
  have hCD : ∀ u, Ext V u → Ext V u := fun u hu => hu
  refine region_U (D := Ext V) (Ext V) [16] (Ext.refl V) ?_
  refine anyU_takeP (i := 0) (j := 16) (v := .pointer (some ⟨rb, 2, none⟩)) 5 [] rfl rfl (by kernel_rfl) (by kernel_rfl) (by kernel_rfl) (fun _ _ _ h => h) (by kernel_rfl) (Ext.stable _) hCD (yieldsU_val rfl (fun u hu => by go_simp)) ?_
  refine anyU_takeP (i := 1) (j := 16) (v := .pointer (some ⟨rb, 2, none⟩)) 6 [] rfl rfl (by kernel_rfl) (by kernel_rfl) (by kernel_rfl) (fun _ _ _ h => h) (by kernel_rfl) (Ext.stable _) hCD (yieldsU_val rfl (fun u hu => by go_simp)) ?_
  refine anyU_takeP (i := 2) (j := 16) (v := .int .i64 a) 7 [] rfl rfl (by kernel_rfl) (by kernel_rfl) (by kernel_rfl) (fun _ _ _ h => h) (by kernel_rfl) (Ext.stable _) hCD (yieldsU_val rfl (fun u hu => by obtain ⟨c0, c1, c2, c3⟩ := (R1.out.bel hu).ints; go_simp)) ?_
  refine anyU_takeP (i := 3) (j := 16) (v := .pointer (some ⟨sb, 0, none⟩)) 8 [] rfl rfl (by kernel_rfl) (by kernel_rfl) (by kernel_rfl) (fun _ _ _ h => h) (by kernel_rfl) (Ext.stable _) hCD (yieldsU_val rfl (fun u hu => by go_simp)) ?_
  refine anyU_takeP (i := 4) (j := 16) (v := .pointer (some ⟨sb, 0, none⟩)) 9 [] rfl rfl (by kernel_rfl) (by kernel_rfl) (by kernel_rfl) (fun _ _ _ h => h) (by kernel_rfl) (Ext.stable _) hCD (yieldsU_val rfl (fun u hu => by go_simp)) ?_
  refine anyU_takeP (i := 5) (j := 16) (v := .int .i64 a0) 10 [] rfl rfl (by kernel_rfl) (by kernel_rfl) (by kernel_rfl) (fun _ _ _ h => h) (by kernel_rfl) (Ext.stable _) hCD (yieldsU_val rfl (fun u hu => by have cc := (S1.out.below hu S1.out.lt).cell 0; go_simp)) ?_
  simp only [Act.put, List.setIfInBounds_toArray, List.set_cons_succ, List.set_cons_zero]
  refine anyU_takeP (i := 6) (j := 16) (v := .int .i64 A) 11 [] rfl rfl (by kernel_rfl) (by kernel_rfl) (by kernel_rfl) (fun _ _ _ h => h) (by kernel_rfl) (Ext.stable _) hCD (yieldsU_call rfl 77 _ _ rfl #[.int .i64 a, .int .i64 a0] (by simp [Act.eval, Act.put]) (fun u => by go_simp) (fun u hu => by have h := omul_any a a0 u; rw [hA.out] at h; exact h)) ?_
  refine anyU_takeP (i := 7) (j := 16) (v := .pointer (some ⟨rb, 2, none⟩)) 12 [] rfl rfl (by kernel_rfl) (by kernel_rfl) (by kernel_rfl) (fun _ _ _ h => h) (by kernel_rfl) (Ext.stable _) hCD (yieldsU_val rfl (fun u hu => by go_simp)) ?_
  refine anyU_takeP (i := 8) (j := 16) (v := .pointer (some ⟨rb, 3, none⟩)) 13 [] rfl rfl (by kernel_rfl) (by kernel_rfl) (by kernel_rfl) (fun _ _ _ h => h) (by kernel_rfl) (Ext.stable _) hCD (yieldsU_val rfl (fun u hu => by go_simp)) ?_
  refine anyU_takeP (i := 9) (j := 16) (v := .int .i64 b) 14 [] rfl rfl (by kernel_rfl) (by kernel_rfl) (by kernel_rfl) (fun _ _ _ h => h) (by kernel_rfl) (Ext.stable _) hCD (yieldsU_val rfl (fun u hu => by obtain ⟨c0, c1, c2, c3⟩ := (R1.out.bel hu).ints; go_simp)) ?_
  refine anyU_takeP (i := 10) (j := 16) (v := .pointer (some ⟨sb, 0, none⟩)) 15 [] rfl rfl (by kernel_rfl) (by kernel_rfl) (by kernel_rfl) (fun _ _ _ h => h) (by kernel_rfl) (Ext.stable _) hCD (yieldsU_val rfl (fun u hu => by go_simp)) ?_
  refine anyU_takeP (i := 11) (j := 16) (v := .pointer (some ⟨sb, 1, none⟩)) 16 [] rfl rfl (by kernel_rfl) (by kernel_rfl) (by kernel_rfl) (fun _ _ _ h => h) (by kernel_rfl) (Ext.stable _) hCD (yieldsU_val rfl (fun u hu => by go_simp)) ?_
  simp only [Act.put, List.setIfInBounds_toArray, List.set_cons_succ, List.set_cons_zero]
  refine anyU_takeP (i := 12) (j := 16) (v := .int .i64 b0) 17 [] rfl rfl (by kernel_rfl) (by kernel_rfl) (by kernel_rfl) (fun _ _ _ h => h) (by kernel_rfl) (Ext.stable _) hCD (yieldsU_val rfl (fun u hu => by have cc := (S1.out.below hu S1.out.lt).cell 1; go_simp)) ?_
  refine anyU_takeP (i := 13) (j := 16) (v := .int .i64 B) 18 [] rfl rfl (by kernel_rfl) (by kernel_rfl) (by kernel_rfl) (fun _ _ _ h => h) (by kernel_rfl) (Ext.stable _) hCD (yieldsU_call rfl 77 _ _ rfl #[.int .i64 b, .int .i64 b0] (by simp [Act.eval, Act.put]) (fun u => by go_simp) (fun u hu => by have h := omul_any b b0 u; rw [hB.out] at h; exact h)) ?_
  refine anyU_takeP (i := 14) (j := 16) (v := .agg #[.int .i64 A, .int .i64 B]) 19 [] rfl rfl (by kernel_rfl) (by kernel_rfl) (by kernel_rfl) (fun _ _ _ h => h) (by kernel_rfl) (Ext.stable _) hCD (yieldsU_val rfl (fun u hu => by go_simp)) ?_
  simp only [Act.put, List.setIfInBounds_toArray, List.set_cons_succ, List.set_cons_zero]
  refine anyU_one 15 1 _ rfl rfl (by kernel_rfl) ?_
  intro u1 hu
  go_wp2_with fail
  change ∃ C' : World → Prop, _ ∧ _ ∧ _ ∧ anyU _ _ _ _ _ _ 1 _ _ _
  have Z1 := Lib.hid (Blk.new u1 #[.int .i64 0, .int .i64 0] 25)
  have E1 := Lib.hid (Ext.trans hu (bel_alloc1 u1 (.cells #[.int .i64 0, .int .i64 0] 25)))
  have lt1 := hu.size
  generalize World.alloc u1 _ = u2 at Z1 E1 ⊢
  generalize u1.heap.size = tb at Z1 lt1 ⊢
  clear hu
  refine anchorF (fun z => Ext V z ∧ Blk z tb #[.int .i64 0, .int .i64 0] 25) (fun z hz => hz.1) ((Ext.stable V).and (fun y z h k => h.below k h.lt)) ⟨E1.out, Z1.out⟩ ?_
  (try simp only [Act.put])
  refine anyU_tail 16 [] rfl rfl (by decide) (by kernel_rfl) ?_
  intro u3 hu3
  simp only [Act.put, List.filterMap_cons, List.filterMap_nil, List.getElem?_cons_succ, List.getElem?_cons_zero]
  have e0 := hu3.2.cell 0
  have e1 := hu3.2.cell 1
  have f0 := hu3.2.frozen 0
  have f1 := hu3.2.frozen 1
  have T3 := Lib.hid hu3.2
  have E3 := Lib.hid hu3.1
  clear hu3
  go_wp2_with fail
  have T4 := Lib.hid ((T3.out.set 0 (.int .i64 A)).set 1 (.int .i64 B))
  have E4 := Lib.hid (show Below V.heap.size V ((u3.setCell ⟨tb, 0, none⟩ (.int .i64 A)).setCell ⟨tb, 1, none⟩ (.int .i64 B)) from (E3.out.setCell (p := ⟨tb, 0, none⟩) lt1 _).setCell (p := ⟨tb, 1, none⟩) lt1 _)
  clear e0 e1 f0 f1 T3 E3
  generalize World.setCell (World.setCell u3 _ _) _ _ = W4 at T4 E4 ⊢
  have S4 := Lib.hid (S1.out.below E4.out S1.out.lt)
  have J4 := HJ.out _ _ _ none H0.out (grown_of_below (bel_trans B1.out E4.out)) (fun r e => by cases e)
  have t0 : W4.cell? ⟨tb, 0, none⟩ = some (.int .i64 A) := T4.out.cell 0
  have t1 : W4.cell? ⟨tb, 1, none⟩ = some (.int .i64 B) := T4.out.cell 1
  obtain ⟨fn0, tm0, as0, bo0, hz0, hR0⟩ := HY.out [] (0, A, B) W4 J4 (by simp)
  have hy0 : (Instr.yield l' #[.int .i64 0, .agg #[.int .i64 A, .int .i64 B]]).run Tryz.prog W4 = .ok (.round l' fn0 tm0 as0 bo0) W4 := hz0
  clear hz0
  gi_wp2
  refine hR0.mono ?_
  clear hR0 hy0
  clear t0 t1
  rintro e W5 (⟨rfl, hJ5, hK5⟩ | ⟨rfl, hJx5⟩)
  · have S5 := Lib.hid (show Blk W5 sb #[.int .i64 a0, .int .i64 b0, .int .i64 a1, .int .i64 b1, .int .i64 a2, .int .i64 b2] 32 from Eq.trans hK5 S4.out)
    have s2 : W5.cell? ⟨sb, 2, none⟩ = some (.int .i64 a1) := S5.out.cell 2
    have s3 : W5.cell? ⟨sb, 3, none⟩ = some (.int .i64 b1) := S5.out.cell 3
    obtain ⟨fn1, tm1, as1, bo1, hz1, hR1⟩ := HY.out [(0, A, B)] (1, a1, b1) W5 hJ5 (by simp)
    have hy1 : (Instr.yield l' #[.int .i64 1, .agg #[.int .i64 a1, .int .i64 b1]]).run Tryz.prog W5 = .ok (.round l' fn1 tm1 as1 bo1) W5 := hz1
    clear hz1
    gi_wp2
    refine hR1.mono ?_
    clear hR1 hy1
    clear s2 s3
    rintro e W6 (⟨rfl, hJ6, hK6⟩ | ⟨rfl, hJx6⟩)
    · have S6 := Lib.hid (show Blk W6 sb #[.int .i64 a0, .int .i64 b0, .int .i64 a1, .int .i64 b1, .int .i64 a2, .int .i64 b2] 32 from Eq.trans hK6 S5.out)
      have s4 : W6.cell? ⟨sb, 4, none⟩ = some (.int .i64 a2) := S6.out.cell 4
      have s5 : W6.cell? ⟨sb, 5, none⟩ = some (.int .i64 b2) := S6.out.cell 5
      obtain ⟨fn2, tm2, as2, bo2, hz2, hR2⟩ := HY.out [(0, A, B), (1, a1, b1)] (2, a2, b2) W6 hJ6 (by simp)
      have hy2 : (Instr.yield l' #[.int .i64 2, .agg #[.int .i64 a2, .int .i64 b2]]).run Tryz.prog W6 = .ok (.round l' fn2 tm2 as2 bo2) W6 := hz2
      clear hz2
      gi_wp2
      refine hR2.mono ?_
      clear hR2 hy2
      clear s4 s5
      rintro e W7 (⟨rfl, hJ7, hK7⟩ | ⟨rfl, hJx7⟩)
      · gi_wp2
        go_end0
        exact ⟨⟨_, rfl⟩, .inl ⟨_, rfl, hJ7⟩⟩
      · gi_wp2
        go_end0
        exact ⟨⟨_, rfl⟩, .inr ⟨_, ⟨[], rfl⟩, hJx7⟩⟩
    · gi_wp2
      go_end0
      exact ⟨⟨_, rfl⟩, .inr ⟨_, ⟨[(2, a2, b2)], rfl⟩, hJx6⟩⟩
  · gi_wp2
    all_goals (refine ⟨fun f h => (by cases h), ?_⟩; apply_assumption; gi_wp2; go_end0; exact ⟨⟨_, rfl⟩, .inr ⟨_, ⟨[(1, a1, b1), (2, a2, b2)], rfl⟩, hJx5⟩⟩)
end Go.Proofs.YtpjobllfiimdkaaGreatDoor
