/- Package calendar: the iterator over departures. -/
import Derived.Test.YtilokkkodocoiaaCalFol
import Derived.Test.YtilokkkodocoiaaRfX
import Derived.RangeFuncNested
import Derived.RangeFuncBound
import Derived.RangeFuncLeaves
import Derived.RangeFuncRecord
import Derived.RangeFuncCalls
import Derived.Shelf.Abstract
import Derived.Shelf.RegionOpen
import Derived.OwnWalkIn
import Derived.TacticsInMore
import Derived.LoopNIn
import Derived.LoopIn
import Derived.WalkMore
import Derived.Laws.MakeOwn
namespace Go.Proofs.Ytilokkkodocoiaa
open Go.RowKit Go.Shelf
set_option linter.unusedVariables false
set_option linter.unusedSimpArgs false
attribute [local go_sem] Oper.semAt_some

def iv (zs : List Int) : List Value := zs.map (Value.int .i64)
theorem iv_len (zs : List Int) : (iv zs).length = zs.length := by simp [iv]
theorem iv_set (zs : List Int) (j : Nat) (x : Int) : (iv zs).toArray.setIfInBounds j (.int .i64 x) = (iv (zs.set j x)).toArray := by simp [iv]
theorem iv_get (zs : List Int) (j : Nat) (h : j < zs.length) : (iv zs).toArray[j]? = some (.int .i64 (zs.getD j 0)) := by simp [iv, List.getD, h]
theorem iv_rep (n : Nat) : iv (List.replicate n 0) = List.replicate n (.int .i64 0) := by simp [iv]
theorem take_setZ {zs : List Int} {k : Nat} {x : Int} (h : k < zs.length) : (zs.set k x).take (k + 1) = zs.take k ++ [x] := by
  rw [take_snocZ (d := 0) (by rw [List.length_set]; exact h), List.take_set_of_le (Nat.le_refl k)]; simp [List.getD, h]
theorem grown_of_below {W W' : World} (h : Below W.heap.size W W') : W.grownBy W' none := ⟨h.os, h.tape, h.output, h.size, fun k hk _ => h.block k hk⟩
theorem folM_map (rs : List Rl) (a : Int) : (rs.map (fun r => fol r a)).foldl min 2097152 = folM rs a := by unfold folM; rw [List.foldl_map]
theorem infoI : (Try.prog.info? 3).map (fun i => (i.zero, i.size, i.bytes)) = some (some (.int .i64 0), 1, 8) := by kernel_rfl
theorem make_ints (n : Nat) (h : n ≤ 4096) (w : World) : (Instr.makeSlice 25 (.int .i64 (n : Int)) (.int .i64 (n : Int))).run Try.prog w = .ok (.slice (some ⟨w.heap.size, 0, none⟩) n n) (w.alloc (.cells (iv (List.replicate n 0)).toArray 3)) := by
  obtain ⟨i0, hi, hz0, hz1, hz2⟩ := info_parts infoI
  have := run_makeSlice (P := Try.prog) (w := w) 25 3 i0 (.int .i64 0) Try.underlying25 hi hz0 .i64 .i64 n n (by omega) (by omega) (by rw [hz1]; simp; omega) (by rw [hz2]; omega) (by omega)
  rw [this, hz1, iv_rep]
  simp only [Int.toNat_natCast, Nat.mul_one]
  congr 3
  apply Array.ext'
  apply List.ext_getElem
  · simp [madeCells]
  · intro j h1 h2
    simp [madeCells, Value.cells, Nat.mod_one]
set_option maxHeartbeats 1000000 in
theorem cdep_fn (p : Option Addr) (n c : Nat) (q : Option Addr) (m d : Nat) (a : Int) (b : Nat) (w : World) (hb : w.heap.size = b) :
    Calls Try.prog 19 #[.slice p n c, .slice q m d, .int .i64 a] w fun e w' => e = .returned (.func (.func 22) #[] #[.pointer (some ⟨b, 0, none⟩), .pointer (some ⟨b + 2, 0, none⟩), .pointer (some ⟨b + 1, 0, none⟩)]) ∧ ((w.alloc (.cells #[.slice p n c] 22)).alloc (.cells #[.slice q m d] 23)).alloc (.cells #[.int .i64 a] 3) = w' := by
  subst hb
  go_enter Try.func19, Try.ntmps19
  go_wp2_with fail
  go_ret
  exact ⟨rfl, rfl⟩
/-- what the iterator wants kept: all below k0, and the three boxes from ib on -/
def KpD (k0 ib : Nat) (W W' : World) : Prop := Below k0 W W' ∧ ∀ b, ib ≤ b → b < ib + 3 → W'.heap[b]? = W.heap[b]?
theorem KpD.trans {k0 ib : Nat} {X Y Z : World} (h : KpD k0 ib X Y) (g : KpD k0 ib Y Z) : KpD k0 ib X Z := ⟨h.1.trans g.1, fun b h1 h2 => (g.2 b h1 h2).trans (h.2 b h1 h2)⟩
theorem KpD.of_below {k0 ib : Nat} {X Y : World} (h : Below X.heap.size X Y) (h1 : k0 ≤ X.heap.size) (h2 : ib + 3 ≤ X.heap.size) : KpD k0 ib X Y := ⟨h.mono h1, fun b _ h3 => h.block b (by omega)⟩
theorem KpD.step {k0 ib : Nat} {X Y Z : World} (h : KpD k0 ib X Y) (hs : k0 ≤ Y.heap.size ∧ ib + 3 ≤ Y.heap.size) (g : Below Y.heap.size Y Z) : KpD k0 ib X Z := h.trans (KpD.of_below g hs.1 hs.2)
theorem KpD.box {k0 ib b : Nat} {X Y : World} (h : KpD k0 ib X Y) (h1 : ib ≤ b) (h2 : b < ib + 3) : Y.cell? ⟨b, 0, none⟩ = X.cell? ⟨b, 0, none⟩ := World.cell?_of_block (h.2 b h1 h2)
theorem KpD.set {k0 ib b o : Nat} {X Y : World} {v : Value} (h : KpD k0 ib X Y) (h1 : k0 ≤ b) (h2 : b < ib ∨ ib + 3 ≤ b) : KpD k0 ib X (Y.setCell ⟨b, o, none⟩ v) :=
  ⟨h.1.setCell (p := ⟨b, o, none⟩) h1 v, fun c h3 h4 => (Below.heap_setCell Y ⟨b, o, none⟩ v c (by show c ≠ b; omega)).trans (h.2 c h3 h4)⟩
set_option maxRecDepth 100000 in
set_option maxHeartbeats 8000000 in
theorem cdep_seq (p : Option Addr) (n c : Nat) (rs : List Rl) (q : Option Addr) (m d : Nat) (gs : List Gp) (a : Int) (m5 : Nat) (hm5 : 1 ≤ m5) (k0 ib : Nat) (wc w : World) (hwc : wc.heap.size = k0) (hBc : Hid (Below k0 wc w)) (hki : k0 ≤ ib) (hbs : ib + 3 ≤ w.heap.size)
    (cr : w.cell? ⟨ib, 0, none⟩ = some (.slice p n c)) (cf : w.cell? ⟨ib + 2, 0, none⟩ = some (.int .i64 a)) (co : w.cell? ⟨ib + 1, 0, none⟩ = some (.slice q m d)) (hr : Hid (RulesV wc p n c rs)) (hg : Hid (GapsV wc q m d gs)) (hv : Hid (Valid rs gs)) (h16 : n ≤ 16) (h64 : m ≤ 64) (ha0 : 0 ≤ a) (ha1 : a ≤ 2097152) :
    SeqX Fence.wide m5 Try.prog 22 #[.pointer (some ⟨ib, 0, none⟩), .pointer (some ⟨ib + 2, 0, none⟩), .pointer (some ⟨ib + 1, 0, none⟩)] (fun t : Int => #[.int .i64 t]) (KpD k0 ib) 1
      (fun xs => xs = depL rs gs a) (fun pre => pre <+: depL rs gs a) (depL rs gs a).length w := fun l J Jx W hW hJ hJx hY h0 => by
  have CR := Lib.hid cr; have CF := Lib.hid cf; have CO := Lib.hid co; clear cr cf co
  have HW := Lib.hid (show KpD k0 ib w W from KpD.of_below hW (by omega) hbs); clear hW
  subst hwc
  have hBW : ∀ u, KpD wc.heap.size ib w u → Below wc.heap.size wc u := fun u hu => hBc.out.trans hu.1
  have hSZ : ∀ u, KpD wc.heap.size ib w u → wc.heap.size ≤ u.heap.size ∧ ib + 3 ≤ u.heap.size := fun u hu => by have := hu.1.size; omega
  have HJ := Lib.hid hJ; clear hJ
  have HJX := Lib.hid hJx; clear hJx
  have HY := Lib.hid hY; clear hY
  have H0 := Lib.hid h0; clear h0
  have hnc := hr.out.nc
  have hcm := hr.out.cm
  have hmd := hg.out.nc
  have hdm := hg.out.cm
  obtain ⟨D, hD⟩ : ∃ D, depL rs gs a = D := ⟨_, rfl⟩
  rw [hD] at HY ⊢
  have HD := Lib.hid hD; clear hD
  have c0 := (HW.out.box (b := ib) (by omega) (by omega)).trans CR.out
  have c1 := (HW.out.box (b := ib + 2) (by omega) (by omega)).trans CF.out
  refine callsIn_of_wp Try.func22 rfl trivial ?_ rfl
  simp only [Try.ntmps22, List.size_toArray, List.length_cons, List.length_nil, Nat.reduceAdd, Nat.reduceSub, Array.replicate_succ, Array.replicate_zero, List.push_toArray, List.append_toArray, List.nil_append, List.cons_append]
  refine wpIn_wide.2 ?_
  refine wp_scope_straight ?_
  obtain ⟨zl, hzl⟩ : ∃ zl, iv (List.replicate n 0) = zl := ⟨_, rfl⟩
  have MK : ∀ u : World, (Instr.makeSlice 25 (.int .i64 (n : Int)) (.int .i64 (n : Int))).run Try.prog u = .ok (.slice (some ⟨u.heap.size, 0, none⟩) n n) (u.alloc (.cells zl.toArray 3)) := fun u => by rw [← hzl]; exact make_ints n (by omega) u
  have HZL := Lib.hid hzl; clear hzl
  obtain ⟨nb, hnb⟩ : ∃ nb, W.heap.size = nb := ⟨_, rfl⟩
  rw [hnb] at HJ HJX HY
  go_upto_region 1 with fail
  have N1 := Lib.hid (show Blk (W.alloc (.cells zl.toArray 3)) nb (iv (List.replicate n 0)).toArray 3 by rw [HZL.out, ← hnb]; exact Blk.new W _ _)
  have J1 := Lib.hid (show J [] (W.alloc (.cells zl.toArray 3)) from HJ.out.more _ H0.out)
  have B1 := Lib.hid (show KpD wc.heap.size ib w (W.alloc (.cells zl.toArray 3)) from HW.out.step (hSZ _ HW.out) (bel_alloc1 W _))
  have hnw : w.heap.size ≤ nb := by rw [← hnb]; exact HW.out.1.size
  clear MK c0 c1 H0 HW
  generalize World.alloc W _ = V at N1 J1 B1 ⊢
  have c1 := (B1.out.box (b := ib + 2) (by omega) (by omega)).trans CF.out
  go_wp2_with fail
  go_step3
  go_wp2_with fail
  go_loopw [6] (fun v wr => ∃ (t : Int) (pre zs : List Int), v = .int .i64 t ∧ 0 ≤ t ∧ t ≤ 2097152 ∧ Hid (pre ++ depL rs gs t = D) ∧ Hid (zs.length = n) ∧ Hid (Blk wr nb (iv zs).toArray 3) ∧ Hid (KpD wc.heap.size ib w wr) ∧ Hid (J pre wr)) (fun v _ => (2097152 - intOf v).toNat)
  case atStart => exact ⟨a, [], _, rfl, ha0, ha1, Lib.hid (by rw [List.nil_append]; exact HD.out), Lib.hid (by simp), N1, B1, J1⟩
  case round =>
    clear N1 J1 B1 c1 HD
    obtain ⟨t, pre, zs, rfl, ht0, ht1, HP, HZ, HN, HB, hj⟩ := hrel
    by_cases hlt : t < 2097152
    · have c0 := (HB.out.box (b := ib) (by omega) (by omega)).trans CR.out
      go_wp2_with fail
      rename World => wx
      go_loopw [19] (fun i wq => ∃ (k : Nat) (ys : List Int), k ≤ n ∧ i = .int .i64 (k : Int) ∧ Hid (ys.length = n) ∧ Hid (ys.take k = (rs.take k).map (fun r => fol r t)) ∧ Hid (Blk wq nb (iv ys).toArray 3) ∧ Hid (KpD wc.heap.size ib w wq) ∧ Hid (J pre wq)) (fun i _ => n - (intOf i).toNat)
      case atStart => exact ⟨0, zs, by omega, by simp, HZ, Lib.hid (by simp), HN, HB, hj⟩
      case round =>
        clear HN HB hj c0 HZ
        obtain ⟨k, ys, hk, rfl, HZ, HT, HN, HB, hj⟩ := hrel
        by_cases hkn : k < n
        · obtain ⟨b, off, hp, hb, d0, d1, d2⟩ := (hr.out.below (hBW _ HB.out)).at hkn
          have cr := (HB.out.box (b := ib) (by omega) (by omega)).trans CR.out
          have hkl : k < rs.length := by have := hr.out.len; omega
          have hkz : k < ys.length := by have := HZ.out; omega
          obtain ⟨x, hx⟩ : ∃ x, rs.getD k rl0 = x := ⟨_, rfl⟩
          have HOK := Lib.hid (show okR x = true by rw [← hx]; exact hv.out.r _ (getD_memZ hkl))
          have HTK := Lib.hid (show (rs.take (k + 1)).map (fun r => fol r t) = (rs.take k).map (fun r => fol r t) ++ [fol x t] by rw [take_snocZ (d := rl0) hkl, hx, List.map_append]; rfl)
          rw [hx] at d0 d1 d2
          clear hx
          obtain ⟨x1, x2, x3⟩ := x
          dsimp only at d0 d1 d2
          rw [hp] at cr
          have HF := cfol_is (x1, x2, x3) t wr HOK.out ht1
          dsimp only at HF
          clear hp
          go_wp2_with (go_at_call 23; with_reducible refine HF.mono ?_; rintro e w3 ⟨rfl, hb3⟩; have N3 := Lib.hid (HN.out.below hb3 HN.out.lt); have B3 := Lib.hid (HB.out.step (hSZ _ HB.out) hb3); have J3 := Lib.hid (HJ.out.grow hj.out hb3); have e3 := (N3.out.cell k).trans (iv_get ys k hkz); have f3 := N3.out.frozen k; clear hb3)
          go_roundw
          case rel => exact ⟨k + 1, ys.set k (fol (x1, x2, x3) t), by omega, by simp, Lib.hid (by rw [List.length_set]; exact HZ.out), Lib.hid (by rw [take_setZ hkz, HTK.out, HT.out]), Lib.hid (by rw [← iv_set]; exact N3.out.set k _), Lib.hid (B3.out.set (b := nb) (by omega) (by omega)), Lib.hid (HJ.out.cell J3.out (Nat.le_refl _) (by omega))⟩
          case measure => simp [intOf]; omega
        · have hkn2 : k = n := by omega
          have HE := Lib.hid (show ys.foldl min 2097152 = folM rs t by
            rw [← folM_map rs t]
            have h := HT.out
            rw [List.take_of_length_le (by have := HZ.out; omega), List.take_of_length_le (by have := hr.out.len; omega)] at h
            rw [h])
          have hd : decide ((k : Int) < (n : Int)) = false := decide_eq_false (by omega)
          clear hkn2 HT
          have HC := cearl_is (some ⟨nb, 0, none⟩) n n ys wr (Lib.hid HZ.out.symm) (by omega) (Nat.le_refl _) (by omega) (Lib.hid (.inr ⟨nb, 0, rfl, fun j hj => by rw [Nat.zero_add]; exact (HN.out.cell j).trans (iv_get ys j hj)⟩))
          rw [HE.out] at HC
          obtain ⟨M, hM⟩ : ∃ M, folM rs t = M := ⟨_, rfl⟩
          rw [hM] at HC
          have HM := Lib.hid hM
          clear hM HE
          have co := (HB.out.box (b := ib + 1) (by omega) (by omega)).trans CO.out
          go_wp2_with (go_at_call 24; with_reducible refine HC.mono ?_; rintro e w' ⟨rfl, rfl⟩)
          have hM0 : t ≤ M ∧ M ≤ 2097152 := by have := folM_lo hv.out ht1; rw [HM.out] at this; exact this
          go_loopw [36] (fun i wq => ∃ h : Nat, h ≤ m ∧ i = .int .i64 (h : Int) ∧ Hid (∀ g ∈ gs.take h, gapB g M = false) ∧ Hid (Blk wq nb (iv ys).toArray 3) ∧ Hid (KpD wc.heap.size ib w wq) ∧ Hid (J pre wq)) (fun i _ => m - (intOf i).toNat)
          case atStart => exact ⟨0, by omega, by simp, Lib.hid (by simp), HN, HB, hj⟩
          case round =>
            clear HN HB hj co HC
            obtain ⟨h, hh, rfl, HG, HN, HB, hj⟩ := hrel
            by_cases hhm : h < m
            · obtain ⟨b, off, hp, hb, d0, d1⟩ := (hg.out.below (hBW _ HB.out)).at hhm
              have hgl : h < gs.length := by have := hg.out.len; omega
              obtain ⟨g, hgx⟩ : ∃ g, gs.getD h gp0 = g := ⟨_, rfl⟩
              have HGM := Lib.hid (show g ∈ gs by rw [← hgx]; exact getD_memZ hgl)
              have hgb := hv.out.gap hgl
              have HGT := Lib.hid (show gs.take (h + 1) = gs.take h ++ [g] by rw [take_snocZ (d := gp0) hgl, hgx])
              rw [hgx] at d0 d1 hgb
              clear hgx
              obtain ⟨g1, g2⟩ := g
              dsimp only at d0 d1 hgb
              subst hp
              by_cases hin : g1 ≤ M ∧ M < g2
              · have t1 : decide (g1 ≤ M) = true := decide_eq_true hin.1
                have t2 : decide (M < g2) = true := decide_eq_true hin.2
                have HPX := Lib.hid (show pre ++ depL rs gs g2 = D by
                  rw [← HP.out, folM_skip hv.out ht1, HM.out]
                  exact congrArg _ (gap_skip (g := (g1, g2)) HGM.out hin.1 hin.2).symm)
                go_wp2_with fail
                go_roundw
                case rel => exact ⟨g2, pre, ys, rfl, by omega, by omega, HPX, HZ, Lib.hid (HN.out.alloc _), Lib.hid (HB.out.step (hSZ _ HB.out) (bel_alloc1 wr _)), Lib.hid (HJ.out.more _ hj.out)⟩
                case measure => simp [intOf]; omega
              · have HGN := Lib.hid (show gapB (g1, g2) M = false by unfold gapB; simp; omega)
                have HGR := Lib.hid (show ∀ g ∈ gs.take (h + 1), gapB g M = false by
                  rw [HGT.out]
                  intro g hgm
                  rcases List.mem_append.1 hgm with h2 | h2
                  · exact HG.out g h2
                  · rw [List.mem_singleton.1 h2]; exact HGN.out)
                by_cases h1 : g1 ≤ M
                · have t1 : decide (g1 ≤ M) = true := decide_eq_true h1
                  have t2 : decide (M < g2) = false := decide_eq_false (by omega)
                  go_wp2_with fail
                  go_roundw
                  case rel => exact ⟨h + 1, by omega, by simp, HGR, Lib.hid (HN.out.alloc _), Lib.hid (HB.out.step (hSZ _ HB.out) (bel_alloc1 wr _)), Lib.hid (HJ.out.more _ hj.out)⟩
                  case measure => simp [intOf]; omega
                · have t1 : decide (g1 ≤ M) = false := decide_eq_false h1
                  go_wp2_with fail
                  go_roundw
                  case rel => exact ⟨h + 1, by omega, by simp, HGR, Lib.hid (HN.out.alloc _), Lib.hid (HB.out.step (hSZ _ HB.out) (bel_alloc1 wr _)), Lib.hid (HJ.out.more _ hj.out)⟩
                  case measure => simp [intOf]; omega
            · have hhe : h = m := by omega
              have HGA := Lib.hid (show gs.any (gapB · M) = false by
                rw [List.any_eq_false]
                intro g hgm
                have h2 := HG.out
                rw [List.take_of_length_le (by have := hg.out.len; omega)] at h2
                rw [h2 g hgm]; simp)
              have hd2 : decide ((h : Int) < (m : Int)) = false := decide_eq_false (by omega)
              clear hhe HG
              by_cases hE : M = 2097152
              · have d3 : decide (M = 2097152) = true := decide_eq_true hE
                have d4 : (M == 2097152) = true := by simpa using hE
                have HDn := Lib.hid (show D = pre by rw [← HP.out, folM_skip hv.out ht1, HM.out, depL_end (by omega), List.append_nil])
                have HME := Lib.hid hE
                clear hE
                go_wp2_with fail
                simp only [Exit.noGoto_ret]
                refine bodyPost_ret (results_none rfl _ _ _) rfl ?_
                exact ⟨⟨_, rfl⟩, .inl ⟨_, rfl, by rw [HDn.out]; exact hj.out⟩⟩
              · have d3 : decide (M = 2097152) = false := decide_eq_false hE
                have d4 : (M == 2097152) = false := by simpa using hE
                have hdep : depB rs gs M = true := by
                  unfold depB
                  rw [HGA.out]
                  have := folM_hit hv.out ht1 (by rw [HM.out]; omega)
                  rw [HM.out] at this
                  rw [this]; rfl
                have HDn := Lib.hid (show pre ++ M :: depL rs gs (M + 1) = D by rw [← HP.out, folM_skip hv.out ht1, HM.out, depL_hit (by omega) hdep])
                have hlen : pre.length < D.length := by rw [← HDn.out, List.length_append, List.length_cons]; omega
                obtain ⟨fn, tmps, assign, body, hy0, hR⟩ := HY.out pre M wr hj.out hlen HN.out.lt
                have hy : (Instr.yield l #[.int .i64 M]).run Try.prog wr = .ok (.round l fn tmps assign body) wr := hy0
                have hwm : IntKind.i64.wrap (M + 1) = M + 1 := by rw [IntKind.wrap_i64]; omega
                have hMl : M < 2097152 := by omega
                clear hy0 hdep HGA hE hlen HP
                go_upto_region 15 with fail
                refine (wpIn_wide (n := m5)).1 ?_
                gi_wp2
                refine hR.mono ?_
                clear hR hy
                rintro e W3 (⟨rfl, hJ3, hK3⟩ | ⟨rfl, hJx3⟩)
                · have HB3 := Lib.hid (show KpD wc.heap.size ib w W3 from HB.out.trans hK3.1)
                  have HN3 := Lib.hid (show Blk W3 nb (iv ys).toArray 3 from (hK3.2 nb (Nat.le_refl _) (by omega)).trans HN.out)
                  have HJ3 := Lib.hid hJ3
                  clear hJ3 hK3 HN HB hj
                  gi_wp2
                  go_wp2_with fail
                  go_roundw
                  case rel => exact ⟨M + 1, pre ++ [M], ys, rfl, by omega, by omega, Lib.hid (by rw [List.append_assoc]; exact HDn.out), HZ, HN3, HB3, HJ3⟩
                  case measure => simp [intOf]; omega
                · have HJx3 := Lib.hid hJx3
                  clear hJx3
                  gi_wp2
                  go_wp2_with fail
                  simp only [Exit.noGoto_ret]
                  refine bodyPost_ret (results_none rfl _ _ _) rfl ?_
                  exact ⟨⟨_, rfl⟩, .inr ⟨_, ⟨_, by rw [List.append_assoc]; exact HDn.out⟩, HJx3.out⟩⟩
    · have HDn := Lib.hid (show D = pre by rw [← HP.out, depL_end (by omega), List.append_nil])
      have hd : decide (t < 2097152) = false := decide_eq_false hlt
      go_wp2_with fail
      (try simp only [Exit.noGoto_normal])
      go_end0
      exact ⟨⟨_, rfl⟩, .inl (by rw [HDn.out]; exact hj.out)⟩
end Go.Proofs.Ytilokkkodocoiaa
