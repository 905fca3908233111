/- Return addresses are spent at most once, in either order. No condition. -/
import Derived.Test.YtcedmiojmepioaaGreatDoorOntSan
import Derived.Test.YtcedmiojmepioaaGreatDoorOntRf3
import Derived.Test.YtcedmiojmepioaaGreatDoorOntOpn
import Derived.Test.YtcedmiojmepioaaGreatDoorLstZ
import Derived.Test.YtcedmiojmepioaaGreatDoorDigCard2
namespace Go.Proofs.YtcedmiojmepioaaGreatDoor
open Go.ChangeShapes Go.WideShapes Go.ChangeAt Go.RowKit Go.WideElems Go.Shelf
set_option linter.unusedVariables false
set_option linter.unusedSimpArgs false

set_option maxRecDepth 100000 in
set_option maxHeartbeats 8000000 in
theorem spent_many (us : List (List Int)) (sp : Option Addr) (n cap : Nat) (l k a b : Int) (zs : List Int) (l2 k2 a2 b2 : Int) (ys : List Int) (w : World) (hz : Hid (zs.length = 32)) (hrz : Hid (∀ z ∈ zs, 0 ≤ z ∧ z ≤ 255)) (hy : Hid (ys.length = 32)) (hry : Hid (∀ z ∈ ys, 0 ≤ z ∧ z ≤ 255)) (hd : Hid (Dgs us)) (hs : Hid (SrcL w sp n cap us)) (hk : Hid (KeysAt w)) (HF : decide (n ≤ 40) = false) :
    Calls Tryz.prog 5 #[.slice sp n cap, .agg (rtv l k a b zs).toArray, .agg (rtv l2 k2 a2 b2 ys).toArray] w fun e w' => e = .returned (.bool true) ∧ Below w.heap.size w w' := by
  have X0 := Lib.hid ((RBlk.box w l k a b hz.out).alloc (.cells (rtv l2 k2 a2 b2 ys).toArray 27))
  have Y0 := Lib.hid (show RBlk ((w.alloc (.cells (rtv l k a b zs).toArray 27)).alloc (.cells (rtv l2 k2 a2 b2 ys).toArray 27)) (w.heap.size + 1) l2 k2 a2 b2 ys by have := RBlk.box (w.alloc (.cells (rtv l k a b zs).toArray 27)) l2 k2 a2 b2 hy.out; simpa using this)
  have B0 := Lib.hid (show Below w.heap.size w ((w.alloc (.cells (rtv l k a b zs).toArray 27)).alloc (.cells (rtv l2 k2 a2 b2 ys).toArray 27)) from (bel_alloc1 w _).alloc (by simp) _)
  have hnl := Lib.hid hs.out.1
  go_enter Tryz.func5, Tryz.ntmps5
  go_wp2_with (first
    | (go_at_call 7; with_reducible refine (sane16_any _ (Lib.hid (hk.out.below B0.out))).mono ?_; rintro e wa ⟨rfl, hb⟩; have B1 := Lib.hid (bel_trans B0.out hb); have X1 := Lib.hid (X0.out.bel hb); have Y1 := Lib.hid (Y0.out.bel hb); clear hb)
    | (go_at_call 12; refine (rfew_is sp n cap false _ HF).mono ?_; rintro e w' ⟨rfl, rfl⟩)
  )
  go_ret
  exact ⟨rfl, B1.out⟩
set_option maxRecDepth 100000 in
set_option maxHeartbeats 8000000 in
theorem spent_uns (us : List (List Int)) (sp : Option Addr) (n cap : Nat) (l k a b : Int) (zs : List Int) (l2 k2 a2 b2 : Int) (ys : List Int) (w : World) (hz : Hid (zs.length = 32)) (hrz : Hid (∀ z ∈ zs, 0 ≤ z ∧ z ≤ 255)) (hy : Hid (ys.length = 32)) (hry : Hid (∀ z ∈ ys, 0 ≤ z ∧ z ≤ 255)) (hd : Hid (Dgs us)) (hs : Hid (SrcL w sp n cap us)) (hk : Hid (KeysAt w)) (h40 : n ≤ 40) (HF : decide (n ≤ 40) = true) (ha : Hid (¬ adjOK us)) :
    Calls Tryz.prog 5 #[.slice sp n cap, .agg (rtv l k a b zs).toArray, .agg (rtv l2 k2 a2 b2 ys).toArray] w fun e w' => e = .returned (.bool true) ∧ Below w.heap.size w w' := by
  have X0 := Lib.hid ((RBlk.box w l k a b hz.out).alloc (.cells (rtv l2 k2 a2 b2 ys).toArray 27))
  have Y0 := Lib.hid (show RBlk ((w.alloc (.cells (rtv l k a b zs).toArray 27)).alloc (.cells (rtv l2 k2 a2 b2 ys).toArray 27)) (w.heap.size + 1) l2 k2 a2 b2 ys by have := RBlk.box (w.alloc (.cells (rtv l k a b zs).toArray 27)) l2 k2 a2 b2 hy.out; simpa using this)
  have B0 := Lib.hid (show Below w.heap.size w ((w.alloc (.cells (rtv l k a b zs).toArray 27)).alloc (.cells (rtv l2 k2 a2 b2 ys).toArray 27)) from (bel_alloc1 w _).alloc (by simp) _)
  have hnl := Lib.hid hs.out.1
  go_enter Tryz.func5, Tryz.ntmps5
  go_wp2_with (first
    | (go_at_call 7; with_reducible refine (sane16_any _ (Lib.hid (hk.out.below B0.out))).mono ?_; rintro e wa ⟨rfl, hb⟩; have B1 := Lib.hid (bel_trans B0.out hb); have X1 := Lib.hid (X0.out.bel hb); have Y1 := Lib.hid (Y0.out.bel hb); clear hb)
    | (go_at_call 12; refine (rfew_is sp n cap true _ HF).mono ?_; rintro e w' ⟨rfl, rfl⟩)
    | (go_at_call 18; with_reducible refine (rused_is us sp n cap false _ hd (Lib.hid (hs.out.below B1.out)) (by omega) (Lib.hid ⟨(fun h => by cases h), fun h => absurd h ha.out⟩)).mono ?_; rintro e wb ⟨rfl, hb⟩; have B2 := Lib.hid (bel_trans B1.out hb); have X2 := Lib.hid (X1.out.bel hb); have Y2 := Lib.hid (Y1.out.bel hb); clear hb)
  )
  go_ret
  exact ⟨rfl, B2.out⟩
set_option maxRecDepth 100000 in
set_option maxHeartbeats 8000000 in
theorem spent_x (us : List (List Int)) (sp : Option Addr) (n cap : Nat) (l k a b : Int) (zs : List Int) (l2 k2 a2 b2 : Int) (ys : List Int) (w : World) (hz : Hid (zs.length = 32)) (hrz : Hid (∀ z ∈ zs, 0 ≤ z ∧ z ≤ 255)) (hy : Hid (ys.length = 32)) (hry : Hid (∀ z ∈ ys, 0 ≤ z ∧ z ≤ 255)) (hd : Hid (Dgs us)) (hs : Hid (SrcL w sp n cap us)) (hk : Hid (KeysAt w)) (h40 : n ≤ 40) (HF : decide (n ≤ 40) = true) (ha : Hid (adjOK us)) (hE : Hid (IsRC l k a b zs 160)) :
    Calls Tryz.prog 5 #[.slice sp n cap, .agg (rtv l k a b zs).toArray, .agg (rtv l2 k2 a2 b2 ys).toArray] w fun e w' => e = .returned (.bool true) ∧ Below w.heap.size w w' := by
  have X0 := Lib.hid ((RBlk.box w l k a b hz.out).alloc (.cells (rtv l2 k2 a2 b2 ys).toArray 27))
  have Y0 := Lib.hid (show RBlk ((w.alloc (.cells (rtv l k a b zs).toArray 27)).alloc (.cells (rtv l2 k2 a2 b2 ys).toArray 27)) (w.heap.size + 1) l2 k2 a2 b2 ys by have := RBlk.box (w.alloc (.cells (rtv l k a b zs).toArray 27)) l2 k2 a2 b2 hy.out; simpa using this)
  have B0 := Lib.hid (show Below w.heap.size w ((w.alloc (.cells (rtv l k a b zs).toArray 27)).alloc (.cells (rtv l2 k2 a2 b2 ys).toArray 27)) from (bel_alloc1 w _).alloc (by simp) _)
  have hnl := Lib.hid hs.out.1
  go_enter Tryz.func5, Tryz.ntmps5
  go_wp2_with (first
    | (go_at_call 7; with_reducible refine (sane16_any _ (Lib.hid (hk.out.below B0.out))).mono ?_; rintro e wa ⟨rfl, hb⟩; have B1 := Lib.hid (bel_trans B0.out hb); have X1 := Lib.hid (X0.out.bel hb); have Y1 := Lib.hid (Y0.out.bel hb); clear hb)
    | (go_at_call 12; refine (rfew_is sp n cap true _ HF).mono ?_; rintro e w' ⟨rfl, rfl⟩)
    | (go_at_call 18; with_reducible refine (rused_is us sp n cap true _ hd (Lib.hid (hs.out.below B1.out)) (by omega) (Lib.hid ⟨fun _ => ha.out, fun _ => rfl⟩)).mono ?_; rintro e wb ⟨rfl, hb⟩; have B2 := Lib.hid (bel_trans B1.out hb); have X2 := Lib.hid (X1.out.bel hb); have Y2 := Lib.hid (Y1.out.bel hb); clear hb)
    | (refine list_loadR (by rfl) (.tmp 4) rfl w.heap.size rfl l k a b zs X2.out ?_)
    | (go_at_call 11; with_reducible refine (rcheck_any l k a b zs 160 _ hz hE).mono ?_; rintro e wc ⟨rfl, hb⟩; have B3 := Lib.hid (bel_trans B2.out hb); have X3 := Lib.hid (X2.out.bel hb); have Y3 := Lib.hid (Y2.out.bel hb); clear hb)
  )
  go_ret
  exact ⟨rfl, B3.out⟩
set_option maxRecDepth 100000 in
set_option maxHeartbeats 8000000 in
theorem spent_y (us : List (List Int)) (sp : Option Addr) (n cap : Nat) (l k a b : Int) (zs : List Int) (l2 k2 a2 b2 : Int) (ys : List Int) (w : World) (hz : Hid (zs.length = 32)) (hrz : Hid (∀ z ∈ zs, 0 ≤ z ∧ z ≤ 255)) (hy : Hid (ys.length = 32)) (hry : Hid (∀ z ∈ ys, 0 ≤ z ∧ z ≤ 255)) (hd : Hid (Dgs us)) (hs : Hid (SrcL w sp n cap us)) (hk : Hid (KeysAt w)) (h40 : n ≤ 40) (HF : decide (n ≤ 40) = true) (ha : Hid (adjOK us)) (hE : Hid (IsRC l k a b zs 0)) (hG : Hid (IsRC l2 k2 a2 b2 ys 160)) :
    Calls Tryz.prog 5 #[.slice sp n cap, .agg (rtv l k a b zs).toArray, .agg (rtv l2 k2 a2 b2 ys).toArray] w fun e w' => e = .returned (.bool true) ∧ Below w.heap.size w w' := by
  have X0 := Lib.hid ((RBlk.box w l k a b hz.out).alloc (.cells (rtv l2 k2 a2 b2 ys).toArray 27))
  have Y0 := Lib.hid (show RBlk ((w.alloc (.cells (rtv l k a b zs).toArray 27)).alloc (.cells (rtv l2 k2 a2 b2 ys).toArray 27)) (w.heap.size + 1) l2 k2 a2 b2 ys by have := RBlk.box (w.alloc (.cells (rtv l k a b zs).toArray 27)) l2 k2 a2 b2 hy.out; simpa using this)
  have B0 := Lib.hid (show Below w.heap.size w ((w.alloc (.cells (rtv l k a b zs).toArray 27)).alloc (.cells (rtv l2 k2 a2 b2 ys).toArray 27)) from (bel_alloc1 w _).alloc (by simp) _)
  have hnl := Lib.hid hs.out.1
  go_enter Tryz.func5, Tryz.ntmps5
  go_wp2_with (first
    | (go_at_call 7; with_reducible refine (sane16_any _ (Lib.hid (hk.out.below B0.out))).mono ?_; rintro e wa ⟨rfl, hb⟩; have B1 := Lib.hid (bel_trans B0.out hb); have X1 := Lib.hid (X0.out.bel hb); have Y1 := Lib.hid (Y0.out.bel hb); clear hb)
    | (go_at_call 12; refine (rfew_is sp n cap true _ HF).mono ?_; rintro e w' ⟨rfl, rfl⟩)
    | (go_at_call 18; with_reducible refine (rused_is us sp n cap true _ hd (Lib.hid (hs.out.below B1.out)) (by omega) (Lib.hid ⟨fun _ => ha.out, fun _ => rfl⟩)).mono ?_; rintro e wb ⟨rfl, hb⟩; have B2 := Lib.hid (bel_trans B1.out hb); have X2 := Lib.hid (X1.out.bel hb); have Y2 := Lib.hid (Y1.out.bel hb); clear hb)
    | (refine list_loadR (by rfl) (.tmp 4) rfl w.heap.size rfl l k a b zs X2.out ?_)
    | (go_at_call 11; with_reducible refine (rcheck_any l k a b zs 0 _ hz hE).mono ?_; rintro e wc ⟨rfl, hb⟩; have B3 := Lib.hid (bel_trans B2.out hb); have X3 := Lib.hid (X2.out.bel hb); have Y3 := Lib.hid (Y2.out.bel hb); clear hb)
    | (refine list_loadR (by rfl) (.tmp 5) rfl (w.heap.size + 1) rfl l2 k2 a2 b2 ys Y3.out ?_)
    | (go_at_call 11; with_reducible refine (rcheck_any l2 k2 a2 b2 ys 160 _ hy hG).mono ?_; rintro e wd ⟨rfl, hb⟩; have B4 := Lib.hid (bel_trans B3.out hb); have X4 := Lib.hid (X3.out.bel hb); have Y4 := Lib.hid (Y3.out.bel hb); clear hb)
  )
  go_ret
  exact ⟨rfl, B4.out⟩
set_option maxRecDepth 100000 in
set_option maxHeartbeats 8000000 in
theorem spent_old (us : List (List Int)) (sp : Option Addr) (n cap : Nat) (l k a b : Int) (zs : List Int) (l2 k2 a2 b2 : Int) (ys : List Int) (w : World) (hz : Hid (zs.length = 32)) (hrz : Hid (∀ z ∈ zs, 0 ≤ z ∧ z ≤ 255)) (hy : Hid (ys.length = 32)) (hry : Hid (∀ z ∈ ys, 0 ≤ z ∧ z ≤ 255)) (hd : Hid (Dgs us)) (hs : Hid (SrcL w sp n cap us)) (hk : Hid (KeysAt w)) (h40 : n ≤ 40) (HF : decide (n ≤ 40) = true) (ha : Hid (adjOK us)) (hE : Hid (IsRC l k a b zs 0)) (hG : Hid (IsRC l2 k2 a2 b2 ys 0)) (i j : Nat) (hi : Hid (IsPos us zs i)) (hj : Hid (IsPos us ys j)) (hf : Hid (hasD us zs = true)) (ey : Int) (HY : Hid (∀ g : World, Below w.heap.size w g → Calls Tryz.prog 15 #[.slice sp n cap, .agg (rtv l2 k2 a2 b2 ys).toArray] g fun e w' => ∃ v', e = .returned (.tuple #[v', .int .i64 ey]) ∧ Below g.heap.size g w')) :
    Calls Tryz.prog 5 #[.slice sp n cap, .agg (rtv l k a b zs).toArray, .agg (rtv l2 k2 a2 b2 ys).toArray] w fun e w' => e = .returned (.bool true) ∧ Below w.heap.size w w' := by
  have X0 := Lib.hid ((RBlk.box w l k a b hz.out).alloc (.cells (rtv l2 k2 a2 b2 ys).toArray 27))
  have Y0 := Lib.hid (show RBlk ((w.alloc (.cells (rtv l k a b zs).toArray 27)).alloc (.cells (rtv l2 k2 a2 b2 ys).toArray 27)) (w.heap.size + 1) l2 k2 a2 b2 ys by have := RBlk.box (w.alloc (.cells (rtv l k a b zs).toArray 27)) l2 k2 a2 b2 hy.out; simpa using this)
  have B0 := Lib.hid (show Below w.heap.size w ((w.alloc (.cells (rtv l k a b zs).toArray 27)).alloc (.cells (rtv l2 k2 a2 b2 ys).toArray 27)) from (bel_alloc1 w _).alloc (by simp) _)
  have hnl := Lib.hid hs.out.1
  go_enter Tryz.func5, Tryz.ntmps5
  go_wp2_with (first
    | (go_at_call 7; with_reducible refine (sane16_any _ (Lib.hid (hk.out.below B0.out))).mono ?_; rintro e wa ⟨rfl, hb⟩; have B1 := Lib.hid (bel_trans B0.out hb); have X1 := Lib.hid (X0.out.bel hb); have Y1 := Lib.hid (Y0.out.bel hb); clear hb)
    | (go_at_call 12; refine (rfew_is sp n cap true _ HF).mono ?_; rintro e w' ⟨rfl, rfl⟩)
    | (go_at_call 18; with_reducible refine (rused_is us sp n cap true _ hd (Lib.hid (hs.out.below B1.out)) (by omega) (Lib.hid ⟨fun _ => ha.out, fun _ => rfl⟩)).mono ?_; rintro e wb ⟨rfl, hb⟩; have B2 := Lib.hid (bel_trans B1.out hb); have X2 := Lib.hid (X1.out.bel hb); have Y2 := Lib.hid (Y1.out.bel hb); clear hb)
    | (refine list_loadR (by rfl) (.tmp 4) rfl w.heap.size rfl l k a b zs X2.out ?_)
    | (go_at_call 11; with_reducible refine (rcheck_any l k a b zs 0 _ hz hE).mono ?_; rintro e wc ⟨rfl, hb⟩; have B3 := Lib.hid (bel_trans B2.out hb); have X3 := Lib.hid (X2.out.bel hb); have Y3 := Lib.hid (Y2.out.bel hb); clear hb)
    | (refine list_loadR (by rfl) (.tmp 5) rfl (w.heap.size + 1) rfl l2 k2 a2 b2 ys Y3.out ?_)
    | (go_at_call 11; with_reducible refine (rcheck_any l2 k2 a2 b2 ys 0 _ hy hG).mono ?_; rintro e wd ⟨rfl, hb⟩; have B4 := Lib.hid (bel_trans B3.out hb); have X4 := Lib.hid (X3.out.bel hb); have Y4 := Lib.hid (Y3.out.bel hb); clear hb)
    | (refine list_loadR (by rfl) (.tmp 4) rfl w.heap.size rfl l k a b zs X4.out ?_)
    | (go_at_call 15; with_reducible refine (ospend_found l k a b zs us sp n cap _ hz hrz hd (Lib.hid (hs.out.below B4.out)) (by omega) (Lib.hid (hk.out.below B4.out)) hE ha i hi hf).mono ?_; rintro e we ⟨rfl, hb⟩; have B5 := Lib.hid (bel_trans B4.out hb); have X5 := Lib.hid (X4.out.bel hb); have Y5 := Lib.hid (Y4.out.bel hb); clear hb)
    | (refine list_loadR (by rfl) (.tmp 5) rfl (w.heap.size + 1) rfl l2 k2 a2 b2 ys Y5.out ?_)
    | (go_at_call 15; with_reducible refine (HY.out _ B5.out).mono ?_; rintro e wf ⟨v6, rfl, hb⟩; have B6 := Lib.hid (bel_trans B5.out hb); have X6 := Lib.hid (X5.out.bel hb); have Y6 := Lib.hid (Y5.out.bel hb); clear hb)
    | (refine list_loadM (by rfl) (.tmp 62) rfl w.heap.size 4 rfl zs X6.out.tag hz.out ?_)
    | (go_at_call 19; with_reducible refine (rhas_is us zs sp n cap true _ hd (Lib.hid (hs.out.below B6.out)) (by omega) hz hf).mono ?_; rintro e wg ⟨rfl, hb⟩; have B7 := Lib.hid (bel_trans B6.out hb); have X7 := Lib.hid (X6.out.bel hb); have Y7 := Lib.hid (Y6.out.bel hb); clear hb)
  )
  go_ret
  exact ⟨rfl, B7.out⟩
set_option maxRecDepth 100000 in
set_option maxHeartbeats 8000000 in
theorem spent_one (us : List (List Int)) (sp : Option Addr) (n cap : Nat) (l k a b : Int) (zs : List Int) (l2 k2 a2 b2 : Int) (ys : List Int) (w : World) (hz : Hid (zs.length = 32)) (hrz : Hid (∀ z ∈ zs, 0 ≤ z ∧ z ≤ 255)) (hy : Hid (ys.length = 32)) (hry : Hid (∀ z ∈ ys, 0 ≤ z ∧ z ≤ 255)) (hd : Hid (Dgs us)) (hs : Hid (SrcL w sp n cap us)) (hk : Hid (KeysAt w)) (h40 : n ≤ 40) (HF : decide (n ≤ 40) = true) (ha : Hid (adjOK us)) (hE : Hid (IsRC l k a b zs 0)) (hG : Hid (IsRC l2 k2 a2 b2 ys 0)) (i j : Nat) (hi : Hid (IsPos us zs i)) (hj : Hid (IsPos us ys j)) (hf : Hid (hasD us zs = false)) (hg : Hid (hasD us ys = false)) (hzy : Hid (zs = ys)) (EQ : ∀ w, (Op.equalIn 10000 25 (.agg (bv zs).toArray) (.agg (bv ys).toArray)).run Tryz.prog w = .ok true w) :
    Calls Tryz.prog 5 #[.slice sp n cap, .agg (rtv l k a b zs).toArray, .agg (rtv l2 k2 a2 b2 ys).toArray] w fun e w' => e = .returned (.bool true) ∧ Below w.heap.size w w' := by
  have X0 := Lib.hid ((RBlk.box w l k a b hz.out).alloc (.cells (rtv l2 k2 a2 b2 ys).toArray 27))
  have Y0 := Lib.hid (show RBlk ((w.alloc (.cells (rtv l k a b zs).toArray 27)).alloc (.cells (rtv l2 k2 a2 b2 ys).toArray 27)) (w.heap.size + 1) l2 k2 a2 b2 ys by have := RBlk.box (w.alloc (.cells (rtv l k a b zs).toArray 27)) l2 k2 a2 b2 hy.out; simpa using this)
  have B0 := Lib.hid (show Below w.heap.size w ((w.alloc (.cells (rtv l k a b zs).toArray 27)).alloc (.cells (rtv l2 k2 a2 b2 ys).toArray 27)) from (bel_alloc1 w _).alloc (by simp) _)
  have hnl := Lib.hid hs.out.1
  go_enter Tryz.func5, Tryz.ntmps5
  obtain ⟨A, hA⟩ : ∃ A, putD us zs i = A := ⟨_, rfl⟩
  have HDA := Lib.hid (show Dgs A by rw [← hA]; exact hd.out.put hz.out hrz.out i)
  have HLA : A.length = n + 1 := by rw [← hA, putD_len us zs i hi.out.1, hs.out.1]
  have HAA := Lib.hid (show adjOK A by rw [← hA]; exact put_adj ha.out hi.out hf.out)
  have HMA := Lib.hid (show ∀ e, e ∈ A ↔ e = zs ∨ e ∈ us by intro e; rw [← hA]; exact put_mem i)
  have HPA := Lib.hid (show putD us zs i = A from hA)
  have HXA := Lib.hid (show hasD A zs = true from has_iff.2 ((HMA.out zs).2 (.inl rfl)))
  obtain ⟨ix, hix⟩ := isPos_ex HAA.out zs
  obtain ⟨iy, hiy⟩ := isPos_ex HAA.out ys
  have HIX := Lib.hid hix
  have HIY := Lib.hid hiy
  clear hA hix hiy
  obtain ⟨C, hC⟩ : ∃ C, putD us ys j = C := ⟨_, rfl⟩
  have HDC := Lib.hid (show Dgs C by rw [← hC]; exact hd.out.put hy.out hry.out j)
  have HLC : C.length = n + 1 := by rw [← hC, putD_len us ys j hj.out.1, hs.out.1]
  have HAC := Lib.hid (show adjOK C by rw [← hC]; exact put_adj ha.out hj.out hg.out)
  have HMC := Lib.hid (show ∀ e, e ∈ C ↔ e = ys ∨ e ∈ us by intro e; rw [← hC]; exact put_mem j)
  have HPC := Lib.hid (show putD us ys j = C from hC)
  obtain ⟨jx, hjx⟩ := isPos_ex HAC.out zs
  have HJX := Lib.hid hjx
  clear hC hjx
  have HYA := Lib.hid (show hasD A ys = true from has_iff.2 ((HMA.out ys).2 (.inl hzy.out.symm)))
  go_upto_region 6 with (first
    | (go_at_call 7; with_reducible refine (sane16_any _ (Lib.hid (hk.out.below B0.out))).mono ?_; rintro e wa ⟨rfl, hb⟩; have B1 := Lib.hid (bel_trans B0.out hb); have X1 := Lib.hid (X0.out.bel hb); have Y1 := Lib.hid (Y0.out.bel hb); clear hb)
    | (go_at_call 12; refine (rfew_is sp n cap true _ HF).mono ?_; rintro e w' ⟨rfl, rfl⟩)
    | (go_at_call 18; with_reducible refine (rused_is us sp n cap true _ hd (Lib.hid (hs.out.below B1.out)) (by omega) (Lib.hid ⟨fun _ => ha.out, fun _ => rfl⟩)).mono ?_; rintro e wb ⟨rfl, hb⟩; have B2 := Lib.hid (bel_trans B1.out hb); have X2 := Lib.hid (X1.out.bel hb); have Y2 := Lib.hid (Y1.out.bel hb); clear hb)
    | (refine list_loadR (by rfl) (.tmp 4) rfl w.heap.size rfl l k a b zs X2.out ?_)
    | (go_at_call 11; with_reducible refine (rcheck_any l k a b zs 0 _ hz hE).mono ?_; rintro e wc ⟨rfl, hb⟩; have B3 := Lib.hid (bel_trans B2.out hb); have X3 := Lib.hid (X2.out.bel hb); have Y3 := Lib.hid (Y2.out.bel hb); clear hb)
    | (refine list_loadR (by rfl) (.tmp 5) rfl (w.heap.size + 1) rfl l2 k2 a2 b2 ys Y3.out ?_)
    | (go_at_call 11; with_reducible refine (rcheck_any l2 k2 a2 b2 ys 0 _ hy hG).mono ?_; rintro e wd ⟨rfl, hb⟩; have B4 := Lib.hid (bel_trans B3.out hb); have X4 := Lib.hid (X3.out.bel hb); have Y4 := Lib.hid (Y3.out.bel hb); clear hb)
    | (refine list_loadR (by rfl) (.tmp 4) rfl w.heap.size rfl l k a b zs X4.out ?_)
    | (go_at_call 15; with_reducible refine (ospend_ok l k a b zs us sp n cap _ hz hrz hd (Lib.hid (hs.out.below B4.out)) (by omega) (Lib.hid (hk.out.below B4.out)) hE ha i hi hf).mono ?_; rintro e we ⟨v5, rfl, o5, hb⟩; have B5 := Lib.hid (bel_trans B4.out hb); have X5 := Lib.hid (X4.out.bel hb); have Y5 := Lib.hid (Y4.out.bel hb); rw [HPA.out] at o5; have O5 := Lib.hid o5; clear hb o5)
  )
  have hO := O5.out
  rw [HLA.symm] at hO
  obtain ⟨p1, c1, hv, hsA⟩ := ownR_src HDA.out hO
  rw [HLA] at hv hsA
  subst v5
  have A5 := Lib.hid hsA
  clear hO hsA O5
  go_upto_region 7 with (first
    | (refine list_loadR (by rfl) (.tmp 5) rfl (w.heap.size + 1) rfl l2 k2 a2 b2 ys Y5.out ?_)
    | (go_at_call 15; with_reducible refine (ospend_ok l2 k2 a2 b2 ys us sp n cap _ hy hry hd (Lib.hid (hs.out.below B5.out)) (by omega) (Lib.hid (hk.out.below B5.out)) hG ha j hj hg).mono ?_; rintro e wf ⟨v6, rfl, o6, hb⟩; have B6 := Lib.hid (bel_trans B5.out hb); have X6 := Lib.hid (X5.out.bel hb); have Y6 := Lib.hid (Y5.out.bel hb); have A6 := Lib.hid (A5.out.below hb); rw [HPC.out] at o6; have O6 := Lib.hid o6; clear hb o6)
  )
  have hO := O6.out
  rw [HLC.symm] at hO
  obtain ⟨p2, c2, hv, hsA⟩ := ownR_src HDC.out hO
  rw [HLC] at hv hsA
  subst v6
  have C6 := Lib.hid hsA
  clear hO hsA O6
  have hn1 : IntKind.i64.wrap ((n : Int) + 1) = ((n + 1 : Nat) : Int) := by rw [IntKind.wrap_i64]; omega
  go_wp2_with (first
    | (refine list_loadM (by rfl) (.tmp 67) rfl w.heap.size 4 rfl zs X6.out.tag hz.out ?_)
    | (go_at_call 19; with_reducible refine (rhas_is us zs sp n cap false _ hd (Lib.hid (hs.out.below B6.out)) (by omega) hz hf).mono ?_; rintro e wg ⟨rfl, hb⟩; have B7 := Lib.hid (bel_trans B6.out hb); have X7 := Lib.hid (X6.out.bel hb); have Y7 := Lib.hid (Y6.out.bel hb); have A7 := Lib.hid (A6.out.below hb); have C7 := Lib.hid (C6.out.below hb); clear hb)
    | (go_at_call 18; with_reducible refine (rused_is A p1 (n + 1) c1 true _ HDA A7 (by omega) (Lib.hid ⟨fun _ => HAA.out, fun _ => rfl⟩)).mono ?_; rintro e wh ⟨rfl, hb⟩; have B8 := Lib.hid (bel_trans B7.out hb); have X8 := Lib.hid (X7.out.bel hb); have Y8 := Lib.hid (Y7.out.bel hb); have A8 := Lib.hid (A7.out.below hb); have C8 := Lib.hid (C7.out.below hb); clear hb)
    | (refine list_loadM (by rfl) (.tmp 85) rfl w.heap.size 4 rfl zs X8.out.tag hz.out ?_)
    | (go_at_call 19; with_reducible refine (rhas_is A zs p1 (n + 1) c1 true _ HDA A8 (by omega) hz HXA).mono ?_; rintro e wi ⟨rfl, hb⟩; have B9 := Lib.hid (bel_trans B8.out hb); have X9 := Lib.hid (X8.out.bel hb); have Y9 := Lib.hid (Y8.out.bel hb); have A9 := Lib.hid (A8.out.below hb); have C9 := Lib.hid (C8.out.below hb); clear hb)
  )
  go_loopw [92] (fun i wr => ∃ q : Nat, q ≤ n ∧ i = .int .i64 q ∧ Hid (Below w.heap.size w wr) ∧ Hid (RBlk wr w.heap.size l k a b zs) ∧ Hid (RBlk wr (w.heap.size + 1) l2 k2 a2 b2 ys) ∧ Hid (SrcL wr p1 (n + 1) c1 A) ∧ Hid (SrcL wr p2 (n + 1) c2 C)) (fun i _ => n - (intOf i).toNat)
  case atStart => exact ⟨0, by omega, rfl, B9, X9, Y9, A9, C9⟩
  case round =>
    clear B9 X9 Y9 A9 C9
    obtain ⟨q, hqn, rfl, B20, X20, Y20, A20, C20⟩ := hrel
    by_cases hqlt : q < n
    · have t1 : (q : Int) < n := by omega
      have h0 : ¬ ((q : Int) < 0) := by omega
      obtain ⟨b', off, rfl, hlt0, hb0⟩ := hs.out.pos (by omega)
      have hlt := Lib.hid hlt0
      have HBY := Lib.hid hb0
      clear hlt0 hb0
      have HQL := Lib.hid (show q < us.length by rw [← hnl.out]; omega)
      obtain ⟨d, hdq⟩ : ∃ x, us.getD q [] = x := ⟨_, rfl⟩
      have LD := Lib.hid (show d.length = 32 by rw [← hdq]; exact (hd.out.get HQL.out).1)
      have HDQ := Lib.hid hdq
      have HIN := Lib.hid (show hasD A d = true by
        refine has_iff.2 ((HMA.out d).2 (.inr ?_))
        rw [← hdq, List.getD_eq_getElem?_getD, List.getElem?_eq_getElem HQL.out]
        exact List.getElem_mem HQL.out)
      clear hdq
      have hcc : (q : Int) ≤ cap := by have := hs.out.2.1; omega
      have hcm : (cap : Int) ≤ 9223372036854775807 := by have := hs.out.2.2.1; unfold maxLen at this; omega
      go_upto_region 14 with (first
        | (refine list_loadM (by rfl) (.tmp 94) rfl b' (off + q * 32) rfl d (by rw [← HDQ.out]; exact flat_at hd.out (HBY.out.below B20.out hlt.out) HQL.out) LD.out ?_)
        | (refine list_storeD rfl (.tmp 12) (.tmp 95) rfl wr.heap.size rfl d rfl LD.out _ (Dg.new wr) ?_))
      intro u3 d3 k3
      have K3 := Lib.hid ((bel_alloc1 wr _).trans (k3.below (Nat.le_refl _)))
      have D21 := Lib.hid d3
      have B21 := Lib.hid (bel_trans B20.out K3.out)
      have X21 := Lib.hid (X20.out.bel K3.out)
      have Y21 := Lib.hid (Y20.out.bel K3.out)
      have A21 := Lib.hid (A20.out.below K3.out)
      have C21 := Lib.hid (C20.out.below K3.out)
      clear d3 k3 K3 B20 X20 Y20 A20 C20
      generalize wr.heap.size = db at D21 ⊢
      go_wp2_with (first
        | (refine list_loadD (by rfl) (.tmp 12) rfl db rfl d D21.out ?_)
        | (go_at_call 19; with_reducible refine (rhas_is A d p1 (n + 1) c1 true _ HDA A21 (by omega) LD HIN).mono ?_; rintro e wj ⟨rfl, hb⟩; have B22 := Lib.hid (bel_trans B21.out hb); have X22 := Lib.hid (X21.out.bel hb); have Y22 := Lib.hid (Y21.out.bel hb); have A22 := Lib.hid (A21.out.below hb); have C22 := Lib.hid (C21.out.below hb); clear hb))
      go_roundw
      case rel => exact ⟨q + 1, by omega, by simp, B22, X22, Y22, A22, C22⟩
      case measure => simp [intOf]; omega
    · obtain rfl : q = n := by omega
      have t1 : ¬ ((q : Int) < q) := by omega
      go_wp2_with (first
        | (refine list_loadR (by rfl) (.tmp 4) rfl w.heap.size rfl l k a b zs X20.out ?_)
        | (go_at_call 15; with_reducible refine (ospend_found l k a b zs A p1 (q + 1) c1 _ hz hrz HDA A20 (by omega) (Lib.hid (hk.out.below B20.out)) hE HAA ix HIX HXA).mono ?_; rintro e wk ⟨rfl, hb⟩; have B31 := Lib.hid (bel_trans B20.out hb); have X31 := Lib.hid (X20.out.bel hb); have Y31 := Lib.hid (Y20.out.bel hb); have A31 := Lib.hid (A20.out.below hb); have C31 := Lib.hid (C20.out.below hb); clear hb)
        | (refine list_loadR (by rfl) (.tmp 5) rfl (w.heap.size + 1) rfl l2 k2 a2 b2 ys Y31.out ?_)
        | (go_at_call 15; with_reducible refine (ospend_found l2 k2 a2 b2 ys A p1 (q + 1) c1 _ hy hry HDA A31 (by omega) (Lib.hid (hk.out.below B31.out)) hG HAA iy HIY HYA).mono ?_; rintro e wl ⟨rfl, hb⟩; have B32 := Lib.hid (bel_trans B31.out hb); have X32 := Lib.hid (X31.out.bel hb); have Y32 := Lib.hid (Y31.out.bel hb); have A32 := Lib.hid (A31.out.below hb); have C32 := Lib.hid (C31.out.below hb); clear hb)
        | (refine list_loadM (by rfl) (.tmp 115) rfl w.heap.size 4 rfl zs X32.out.tag hz.out ?_)
        | (refine list_loadM (by rfl) (.tmp 117) rfl (w.heap.size + 1) 4 rfl ys Y32.out.tag hy.out ?_)
      )
      go_ret
      exact ⟨rfl, B32.out⟩
set_option maxRecDepth 100000 in
set_option maxHeartbeats 8000000 in
theorem spent_late (us : List (List Int)) (sp : Option Addr) (n cap : Nat) (l k a b : Int) (zs : List Int) (l2 k2 a2 b2 : Int) (ys : List Int) (w : World) (hz : Hid (zs.length = 32)) (hrz : Hid (∀ z ∈ zs, 0 ≤ z ∧ z ≤ 255)) (hy : Hid (ys.length = 32)) (hry : Hid (∀ z ∈ ys, 0 ≤ z ∧ z ≤ 255)) (hd : Hid (Dgs us)) (hs : Hid (SrcL w sp n cap us)) (hk : Hid (KeysAt w)) (h40 : n ≤ 40) (HF : decide (n ≤ 40) = true) (ha : Hid (adjOK us)) (hE : Hid (IsRC l k a b zs 0)) (hG : Hid (IsRC l2 k2 a2 b2 ys 0)) (i j : Nat) (hi : Hid (IsPos us zs i)) (hj : Hid (IsPos us ys j)) (hf : Hid (hasD us zs = false)) (hg : Hid (hasD us ys = true)) (hzy : Hid (zs ≠ ys)) (EQ : ∀ w, (Op.equalIn 10000 25 (.agg (bv zs).toArray) (.agg (bv ys).toArray)).run Tryz.prog w = .ok false w) :
    Calls Tryz.prog 5 #[.slice sp n cap, .agg (rtv l k a b zs).toArray, .agg (rtv l2 k2 a2 b2 ys).toArray] w fun e w' => e = .returned (.bool true) ∧ Below w.heap.size w w' := by
  have X0 := Lib.hid ((RBlk.box w l k a b hz.out).alloc (.cells (rtv l2 k2 a2 b2 ys).toArray 27))
  have Y0 := Lib.hid (show RBlk ((w.alloc (.cells (rtv l k a b zs).toArray 27)).alloc (.cells (rtv l2 k2 a2 b2 ys).toArray 27)) (w.heap.size + 1) l2 k2 a2 b2 ys by have := RBlk.box (w.alloc (.cells (rtv l k a b zs).toArray 27)) l2 k2 a2 b2 hy.out; simpa using this)
  have B0 := Lib.hid (show Below w.heap.size w ((w.alloc (.cells (rtv l k a b zs).toArray 27)).alloc (.cells (rtv l2 k2 a2 b2 ys).toArray 27)) from (bel_alloc1 w _).alloc (by simp) _)
  have hnl := Lib.hid hs.out.1
  go_enter Tryz.func5, Tryz.ntmps5
  obtain ⟨A, hA⟩ : ∃ A, putD us zs i = A := ⟨_, rfl⟩
  have HDA := Lib.hid (show Dgs A by rw [← hA]; exact hd.out.put hz.out hrz.out i)
  have HLA : A.length = n + 1 := by rw [← hA, putD_len us zs i hi.out.1, hs.out.1]
  have HAA := Lib.hid (show adjOK A by rw [← hA]; exact put_adj ha.out hi.out hf.out)
  have HMA := Lib.hid (show ∀ e, e ∈ A ↔ e = zs ∨ e ∈ us by intro e; rw [← hA]; exact put_mem i)
  have HPA := Lib.hid (show putD us zs i = A from hA)
  have HXA := Lib.hid (show hasD A zs = true from has_iff.2 ((HMA.out zs).2 (.inl rfl)))
  obtain ⟨ix, hix⟩ := isPos_ex HAA.out zs
  obtain ⟨iy, hiy⟩ := isPos_ex HAA.out ys
  have HIX := Lib.hid hix
  have HIY := Lib.hid hiy
  clear hA hix hiy
  have HYA := Lib.hid (show hasD A ys = true from has_iff.2 ((HMA.out ys).2 (.inr (has_iff.1 hg.out))))
  go_upto_region 6 with (first
    | (go_at_call 7; with_reducible refine (sane16_any _ (Lib.hid (hk.out.below B0.out))).mono ?_; rintro e wa ⟨rfl, hb⟩; have B1 := Lib.hid (bel_trans B0.out hb); have X1 := Lib.hid (X0.out.bel hb); have Y1 := Lib.hid (Y0.out.bel hb); clear hb)
    | (go_at_call 12; refine (rfew_is sp n cap true _ HF).mono ?_; rintro e w' ⟨rfl, rfl⟩)
    | (go_at_call 18; with_reducible refine (rused_is us sp n cap true _ hd (Lib.hid (hs.out.below B1.out)) (by omega) (Lib.hid ⟨fun _ => ha.out, fun _ => rfl⟩)).mono ?_; rintro e wb ⟨rfl, hb⟩; have B2 := Lib.hid (bel_trans B1.out hb); have X2 := Lib.hid (X1.out.bel hb); have Y2 := Lib.hid (Y1.out.bel hb); clear hb)
    | (refine list_loadR (by rfl) (.tmp 4) rfl w.heap.size rfl l k a b zs X2.out ?_)
    | (go_at_call 11; with_reducible refine (rcheck_any l k a b zs 0 _ hz hE).mono ?_; rintro e wc ⟨rfl, hb⟩; have B3 := Lib.hid (bel_trans B2.out hb); have X3 := Lib.hid (X2.out.bel hb); have Y3 := Lib.hid (Y2.out.bel hb); clear hb)
    | (refine list_loadR (by rfl) (.tmp 5) rfl (w.heap.size + 1) rfl l2 k2 a2 b2 ys Y3.out ?_)
    | (go_at_call 11; with_reducible refine (rcheck_any l2 k2 a2 b2 ys 0 _ hy hG).mono ?_; rintro e wd ⟨rfl, hb⟩; have B4 := Lib.hid (bel_trans B3.out hb); have X4 := Lib.hid (X3.out.bel hb); have Y4 := Lib.hid (Y3.out.bel hb); clear hb)
    | (refine list_loadR (by rfl) (.tmp 4) rfl w.heap.size rfl l k a b zs X4.out ?_)
    | (go_at_call 15; with_reducible refine (ospend_ok l k a b zs us sp n cap _ hz hrz hd (Lib.hid (hs.out.below B4.out)) (by omega) (Lib.hid (hk.out.below B4.out)) hE ha i hi hf).mono ?_; rintro e we ⟨v5, rfl, o5, hb⟩; have B5 := Lib.hid (bel_trans B4.out hb); have X5 := Lib.hid (X4.out.bel hb); have Y5 := Lib.hid (Y4.out.bel hb); rw [HPA.out] at o5; have O5 := Lib.hid o5; clear hb o5)
  )
  have hO := O5.out
  rw [HLA.symm] at hO
  obtain ⟨p1, c1, hv, hsA⟩ := ownR_src HDA.out hO
  rw [HLA] at hv hsA
  subst v5
  have A5 := Lib.hid hsA
  clear hO hsA O5
  go_upto_region 7 with (first
    | (refine list_loadR (by rfl) (.tmp 5) rfl (w.heap.size + 1) rfl l2 k2 a2 b2 ys Y5.out ?_)
    | (go_at_call 15; with_reducible refine (ospend_found l2 k2 a2 b2 ys us sp n cap _ hy hry hd (Lib.hid (hs.out.below B5.out)) (by omega) (Lib.hid (hk.out.below B5.out)) hG ha j hj hg).mono ?_; rintro e wf ⟨rfl, hb⟩; have B6 := Lib.hid (bel_trans B5.out hb); have X6 := Lib.hid (X5.out.bel hb); have Y6 := Lib.hid (Y5.out.bel hb); have A6 := Lib.hid (A5.out.below hb); clear hb)
  )
  have hn1 : IntKind.i64.wrap ((n : Int) + 1) = ((n + 1 : Nat) : Int) := by rw [IntKind.wrap_i64]; omega
  go_wp2_with (first
    | (refine list_loadM (by rfl) (.tmp 67) rfl w.heap.size 4 rfl zs X6.out.tag hz.out ?_)
    | (go_at_call 19; with_reducible refine (rhas_is us zs sp n cap false _ hd (Lib.hid (hs.out.below B6.out)) (by omega) hz hf).mono ?_; rintro e wg ⟨rfl, hb⟩; have B7 := Lib.hid (bel_trans B6.out hb); have X7 := Lib.hid (X6.out.bel hb); have Y7 := Lib.hid (Y6.out.bel hb); have A7 := Lib.hid (A6.out.below hb); clear hb)
    | (go_at_call 18; with_reducible refine (rused_is A p1 (n + 1) c1 true _ HDA A7 (by omega) (Lib.hid ⟨fun _ => HAA.out, fun _ => rfl⟩)).mono ?_; rintro e wh ⟨rfl, hb⟩; have B8 := Lib.hid (bel_trans B7.out hb); have X8 := Lib.hid (X7.out.bel hb); have Y8 := Lib.hid (Y7.out.bel hb); have A8 := Lib.hid (A7.out.below hb); clear hb)
    | (refine list_loadM (by rfl) (.tmp 85) rfl w.heap.size 4 rfl zs X8.out.tag hz.out ?_)
    | (go_at_call 19; with_reducible refine (rhas_is A zs p1 (n + 1) c1 true _ HDA A8 (by omega) hz HXA).mono ?_; rintro e wi ⟨rfl, hb⟩; have B9 := Lib.hid (bel_trans B8.out hb); have X9 := Lib.hid (X8.out.bel hb); have Y9 := Lib.hid (Y8.out.bel hb); have A9 := Lib.hid (A8.out.below hb); clear hb)
  )
  go_loopw [92] (fun i wr => ∃ q : Nat, q ≤ n ∧ i = .int .i64 q ∧ Hid (Below w.heap.size w wr) ∧ Hid (RBlk wr w.heap.size l k a b zs) ∧ Hid (RBlk wr (w.heap.size + 1) l2 k2 a2 b2 ys) ∧ Hid (SrcL wr p1 (n + 1) c1 A)) (fun i _ => n - (intOf i).toNat)
  case atStart => exact ⟨0, by omega, rfl, B9, X9, Y9, A9⟩
  case round =>
    clear B9 X9 Y9 A9
    obtain ⟨q, hqn, rfl, B20, X20, Y20, A20⟩ := hrel
    by_cases hqlt : q < n
    · have t1 : (q : Int) < n := by omega
      have h0 : ¬ ((q : Int) < 0) := by omega
      obtain ⟨b', off, rfl, hlt0, hb0⟩ := hs.out.pos (by omega)
      have hlt := Lib.hid hlt0
      have HBY := Lib.hid hb0
      clear hlt0 hb0
      have HQL := Lib.hid (show q < us.length by rw [← hnl.out]; omega)
      obtain ⟨d, hdq⟩ : ∃ x, us.getD q [] = x := ⟨_, rfl⟩
      have LD := Lib.hid (show d.length = 32 by rw [← hdq]; exact (hd.out.get HQL.out).1)
      have HDQ := Lib.hid hdq
      have HIN := Lib.hid (show hasD A d = true by
        refine has_iff.2 ((HMA.out d).2 (.inr ?_))
        rw [← hdq, List.getD_eq_getElem?_getD, List.getElem?_eq_getElem HQL.out]
        exact List.getElem_mem HQL.out)
      clear hdq
      have hcc : (q : Int) ≤ cap := by have := hs.out.2.1; omega
      have hcm : (cap : Int) ≤ 9223372036854775807 := by have := hs.out.2.2.1; unfold maxLen at this; omega
      go_upto_region 14 with (first
        | (refine list_loadM (by rfl) (.tmp 94) rfl b' (off + q * 32) rfl d (by rw [← HDQ.out]; exact flat_at hd.out (HBY.out.below B20.out hlt.out) HQL.out) LD.out ?_)
        | (refine list_storeD rfl (.tmp 12) (.tmp 95) rfl wr.heap.size rfl d rfl LD.out _ (Dg.new wr) ?_))
      intro u3 d3 k3
      have K3 := Lib.hid ((bel_alloc1 wr _).trans (k3.below (Nat.le_refl _)))
      have D21 := Lib.hid d3
      have B21 := Lib.hid (bel_trans B20.out K3.out)
      have X21 := Lib.hid (X20.out.bel K3.out)
      have Y21 := Lib.hid (Y20.out.bel K3.out)
      have A21 := Lib.hid (A20.out.below K3.out)
      clear d3 k3 K3 B20 X20 Y20 A20
      generalize wr.heap.size = db at D21 ⊢
      go_wp2_with (first
        | (refine list_loadD (by rfl) (.tmp 12) rfl db rfl d D21.out ?_)
        | (go_at_call 19; with_reducible refine (rhas_is A d p1 (n + 1) c1 true _ HDA A21 (by omega) LD HIN).mono ?_; rintro e wj ⟨rfl, hb⟩; have B22 := Lib.hid (bel_trans B21.out hb); have X22 := Lib.hid (X21.out.bel hb); have Y22 := Lib.hid (Y21.out.bel hb); have A22 := Lib.hid (A21.out.below hb); clear hb))
      go_roundw
      case rel => exact ⟨q + 1, by omega, by simp, B22, X22, Y22, A22⟩
      case measure => simp [intOf]; omega
    · obtain rfl : q = n := by omega
      have t1 : ¬ ((q : Int) < q) := by omega
      go_wp2_with (first
        | (refine list_loadR (by rfl) (.tmp 4) rfl w.heap.size rfl l k a b zs X20.out ?_)
        | (go_at_call 15; with_reducible refine (ospend_found l k a b zs A p1 (q + 1) c1 _ hz hrz HDA A20 (by omega) (Lib.hid (hk.out.below B20.out)) hE HAA ix HIX HXA).mono ?_; rintro e wk ⟨rfl, hb⟩; have B31 := Lib.hid (bel_trans B20.out hb); have X31 := Lib.hid (X20.out.bel hb); have Y31 := Lib.hid (Y20.out.bel hb); have A31 := Lib.hid (A20.out.below hb); clear hb)
        | (refine list_loadR (by rfl) (.tmp 5) rfl (w.heap.size + 1) rfl l2 k2 a2 b2 ys Y31.out ?_)
        | (go_at_call 15; with_reducible refine (ospend_found l2 k2 a2 b2 ys A p1 (q + 1) c1 _ hy hry HDA A31 (by omega) (Lib.hid (hk.out.below B31.out)) hG HAA iy HIY HYA).mono ?_; rintro e wl ⟨rfl, hb⟩; have B32 := Lib.hid (bel_trans B31.out hb); have X32 := Lib.hid (X31.out.bel hb); have Y32 := Lib.hid (Y31.out.bel hb); have A32 := Lib.hid (A31.out.below hb); clear hb)
        | (refine list_loadM (by rfl) (.tmp 115) rfl w.heap.size 4 rfl zs X32.out.tag hz.out ?_)
        | (refine list_loadM (by rfl) (.tmp 117) rfl (w.heap.size + 1) 4 rfl ys Y32.out.tag hy.out ?_)
      )
      go_ret
      exact ⟨rfl, B32.out⟩
set_option maxRecDepth 100000 in
set_option maxHeartbeats 8000000 in
theorem spent_both (us : List (List Int)) (sp : Option Addr) (n cap : Nat) (l k a b : Int) (zs : List Int) (l2 k2 a2 b2 : Int) (ys : List Int) (w : World) (hz : Hid (zs.length = 32)) (hrz : Hid (∀ z ∈ zs, 0 ≤ z ∧ z ≤ 255)) (hy : Hid (ys.length = 32)) (hry : Hid (∀ z ∈ ys, 0 ≤ z ∧ z ≤ 255)) (hd : Hid (Dgs us)) (hs : Hid (SrcL w sp n cap us)) (hk : Hid (KeysAt w)) (h40 : n ≤ 40) (HF : decide (n ≤ 40) = true) (ha : Hid (adjOK us)) (hE : Hid (IsRC l k a b zs 0)) (hG : Hid (IsRC l2 k2 a2 b2 ys 0)) (i j : Nat) (hi : Hid (IsPos us zs i)) (hj : Hid (IsPos us ys j)) (hf : Hid (hasD us zs = false)) (hg : Hid (hasD us ys = false)) (hzy : Hid (zs ≠ ys)) (EQ : ∀ w, (Op.equalIn 10000 25 (.agg (bv zs).toArray) (.agg (bv ys).toArray)).run Tryz.prog w = .ok false w) :
    Calls Tryz.prog 5 #[.slice sp n cap, .agg (rtv l k a b zs).toArray, .agg (rtv l2 k2 a2 b2 ys).toArray] w fun e w' => e = .returned (.bool true) ∧ Below w.heap.size w w' := by
  have X0 := Lib.hid ((RBlk.box w l k a b hz.out).alloc (.cells (rtv l2 k2 a2 b2 ys).toArray 27))
  have Y0 := Lib.hid (show RBlk ((w.alloc (.cells (rtv l k a b zs).toArray 27)).alloc (.cells (rtv l2 k2 a2 b2 ys).toArray 27)) (w.heap.size + 1) l2 k2 a2 b2 ys by have := RBlk.box (w.alloc (.cells (rtv l k a b zs).toArray 27)) l2 k2 a2 b2 hy.out; simpa using this)
  have B0 := Lib.hid (show Below w.heap.size w ((w.alloc (.cells (rtv l k a b zs).toArray 27)).alloc (.cells (rtv l2 k2 a2 b2 ys).toArray 27)) from (bel_alloc1 w _).alloc (by simp) _)
  have hnl := Lib.hid hs.out.1
  go_enter Tryz.func5, Tryz.ntmps5
  obtain ⟨A, hA⟩ : ∃ A, putD us zs i = A := ⟨_, rfl⟩
  have HDA := Lib.hid (show Dgs A by rw [← hA]; exact hd.out.put hz.out hrz.out i)
  have HLA : A.length = n + 1 := by rw [← hA, putD_len us zs i hi.out.1, hs.out.1]
  have HAA := Lib.hid (show adjOK A by rw [← hA]; exact put_adj ha.out hi.out hf.out)
  have HMA := Lib.hid (show ∀ e, e ∈ A ↔ e = zs ∨ e ∈ us by intro e; rw [← hA]; exact put_mem i)
  have HPA := Lib.hid (show putD us zs i = A from hA)
  have HXA := Lib.hid (show hasD A zs = true from has_iff.2 ((HMA.out zs).2 (.inl rfl)))
  obtain ⟨ix, hix⟩ := isPos_ex HAA.out zs
  obtain ⟨iy, hiy⟩ := isPos_ex HAA.out ys
  have HIX := Lib.hid hix
  have HIY := Lib.hid hiy
  clear hA hix hiy
  obtain ⟨C, hC⟩ : ∃ C, putD us ys j = C := ⟨_, rfl⟩
  have HDC := Lib.hid (show Dgs C by rw [← hC]; exact hd.out.put hy.out hry.out j)
  have HLC : C.length = n + 1 := by rw [← hC, putD_len us ys j hj.out.1, hs.out.1]
  have HAC := Lib.hid (show adjOK C by rw [← hC]; exact put_adj ha.out hj.out hg.out)
  have HMC := Lib.hid (show ∀ e, e ∈ C ↔ e = ys ∨ e ∈ us by intro e; rw [← hC]; exact put_mem j)
  have HPC := Lib.hid (show putD us ys j = C from hC)
  obtain ⟨jx, hjx⟩ := isPos_ex HAC.out zs
  have HJX := Lib.hid hjx
  clear hC hjx
  have HYA := Lib.hid (show hasD A ys = false by
    cases h : hasD A ys with
    | false => rfl
    | true =>
      rcases (HMA.out ys).1 (has_iff.1 h) with h | h
      · exact absurd h.symm hzy.out
      · have := hg.out; rw [has_iff.2 h] at this; cases this)
  have HZC := Lib.hid (show hasD C zs = false by
    cases h : hasD C zs with
    | false => rfl
    | true =>
      rcases (HMC.out zs).1 (has_iff.1 h) with h | h
      · exact absurd h hzy.out
      · have := hf.out; rw [has_iff.2 h] at this; cases this)
  have HSAME := Lib.hid (show (putD A ys iy).flatten = (putD C zs jx).flatten by
    rw [sorted_ext (putD A ys iy) (putD C zs jx) (put_adj HAA.out HIY.out HYA.out) (put_adj HAC.out HJX.out HZC.out) fun e => by
      rw [put_mem, put_mem, HMA.out, HMC.out]
      constructor
      · rintro (h | h | h)
        · exact .inr (.inl h)
        · exact .inl h
        · exact .inr (.inr h)
      · rintro (h | h | h)
        · exact .inr (.inl h)
        · exact .inl h
        · exact .inr (.inr h)])
  go_upto_region 6 with (first
    | (go_at_call 7; with_reducible refine (sane16_any _ (Lib.hid (hk.out.below B0.out))).mono ?_; rintro e wa ⟨rfl, hb⟩; have B1 := Lib.hid (bel_trans B0.out hb); have X1 := Lib.hid (X0.out.bel hb); have Y1 := Lib.hid (Y0.out.bel hb); clear hb)
    | (go_at_call 12; refine (rfew_is sp n cap true _ HF).mono ?_; rintro e w' ⟨rfl, rfl⟩)
    | (go_at_call 18; with_reducible refine (rused_is us sp n cap true _ hd (Lib.hid (hs.out.below B1.out)) (by omega) (Lib.hid ⟨fun _ => ha.out, fun _ => rfl⟩)).mono ?_; rintro e wb ⟨rfl, hb⟩; have B2 := Lib.hid (bel_trans B1.out hb); have X2 := Lib.hid (X1.out.bel hb); have Y2 := Lib.hid (Y1.out.bel hb); clear hb)
    | (refine list_loadR (by rfl) (.tmp 4) rfl w.heap.size rfl l k a b zs X2.out ?_)
    | (go_at_call 11; with_reducible refine (rcheck_any l k a b zs 0 _ hz hE).mono ?_; rintro e wc ⟨rfl, hb⟩; have B3 := Lib.hid (bel_trans B2.out hb); have X3 := Lib.hid (X2.out.bel hb); have Y3 := Lib.hid (Y2.out.bel hb); clear hb)
    | (refine list_loadR (by rfl) (.tmp 5) rfl (w.heap.size + 1) rfl l2 k2 a2 b2 ys Y3.out ?_)
    | (go_at_call 11; with_reducible refine (rcheck_any l2 k2 a2 b2 ys 0 _ hy hG).mono ?_; rintro e wd ⟨rfl, hb⟩; have B4 := Lib.hid (bel_trans B3.out hb); have X4 := Lib.hid (X3.out.bel hb); have Y4 := Lib.hid (Y3.out.bel hb); clear hb)
    | (refine list_loadR (by rfl) (.tmp 4) rfl w.heap.size rfl l k a b zs X4.out ?_)
    | (go_at_call 15; with_reducible refine (ospend_ok l k a b zs us sp n cap _ hz hrz hd (Lib.hid (hs.out.below B4.out)) (by omega) (Lib.hid (hk.out.below B4.out)) hE ha i hi hf).mono ?_; rintro e we ⟨v5, rfl, o5, hb⟩; have B5 := Lib.hid (bel_trans B4.out hb); have X5 := Lib.hid (X4.out.bel hb); have Y5 := Lib.hid (Y4.out.bel hb); rw [HPA.out] at o5; have O5 := Lib.hid o5; clear hb o5)
  )
  have hO := O5.out
  rw [HLA.symm] at hO
  obtain ⟨p1, c1, hv, hsA⟩ := ownR_src HDA.out hO
  rw [HLA] at hv hsA
  subst v5
  have A5 := Lib.hid hsA
  clear hO hsA O5
  go_upto_region 7 with (first
    | (refine list_loadR (by rfl) (.tmp 5) rfl (w.heap.size + 1) rfl l2 k2 a2 b2 ys Y5.out ?_)
    | (go_at_call 15; with_reducible refine (ospend_ok l2 k2 a2 b2 ys us sp n cap _ hy hry hd (Lib.hid (hs.out.below B5.out)) (by omega) (Lib.hid (hk.out.below B5.out)) hG ha j hj hg).mono ?_; rintro e wf ⟨v6, rfl, o6, hb⟩; have B6 := Lib.hid (bel_trans B5.out hb); have X6 := Lib.hid (X5.out.bel hb); have Y6 := Lib.hid (Y5.out.bel hb); have A6 := Lib.hid (A5.out.below hb); rw [HPC.out] at o6; have O6 := Lib.hid o6; clear hb o6)
  )
  have hO := O6.out
  rw [HLC.symm] at hO
  obtain ⟨p2, c2, hv, hsA⟩ := ownR_src HDC.out hO
  rw [HLC] at hv hsA
  subst v6
  have C6 := Lib.hid hsA
  clear hO hsA O6
  have hn1 : IntKind.i64.wrap ((n : Int) + 1) = ((n + 1 : Nat) : Int) := by rw [IntKind.wrap_i64]; omega
  go_wp2_with (first
    | (refine list_loadM (by rfl) (.tmp 67) rfl w.heap.size 4 rfl zs X6.out.tag hz.out ?_)
    | (go_at_call 19; with_reducible refine (rhas_is us zs sp n cap false _ hd (Lib.hid (hs.out.below B6.out)) (by omega) hz hf).mono ?_; rintro e wg ⟨rfl, hb⟩; have B7 := Lib.hid (bel_trans B6.out hb); have X7 := Lib.hid (X6.out.bel hb); have Y7 := Lib.hid (Y6.out.bel hb); have A7 := Lib.hid (A6.out.below hb); have C7 := Lib.hid (C6.out.below hb); clear hb)
    | (go_at_call 18; with_reducible refine (rused_is A p1 (n + 1) c1 true _ HDA A7 (by omega) (Lib.hid ⟨fun _ => HAA.out, fun _ => rfl⟩)).mono ?_; rintro e wh ⟨rfl, hb⟩; have B8 := Lib.hid (bel_trans B7.out hb); have X8 := Lib.hid (X7.out.bel hb); have Y8 := Lib.hid (Y7.out.bel hb); have A8 := Lib.hid (A7.out.below hb); have C8 := Lib.hid (C7.out.below hb); clear hb)
    | (refine list_loadM (by rfl) (.tmp 85) rfl w.heap.size 4 rfl zs X8.out.tag hz.out ?_)
    | (go_at_call 19; with_reducible refine (rhas_is A zs p1 (n + 1) c1 true _ HDA A8 (by omega) hz HXA).mono ?_; rintro e wi ⟨rfl, hb⟩; have B9 := Lib.hid (bel_trans B8.out hb); have X9 := Lib.hid (X8.out.bel hb); have Y9 := Lib.hid (Y8.out.bel hb); have A9 := Lib.hid (A8.out.below hb); have C9 := Lib.hid (C8.out.below hb); clear hb)
  )
  go_loopw [92] (fun i wr => ∃ q : Nat, q ≤ n ∧ i = .int .i64 q ∧ Hid (Below w.heap.size w wr) ∧ Hid (RBlk wr w.heap.size l k a b zs) ∧ Hid (RBlk wr (w.heap.size + 1) l2 k2 a2 b2 ys) ∧ Hid (SrcL wr p1 (n + 1) c1 A) ∧ Hid (SrcL wr p2 (n + 1) c2 C)) (fun i _ => n - (intOf i).toNat)
  case atStart => exact ⟨0, by omega, rfl, B9, X9, Y9, A9, C9⟩
  case round =>
    clear B9 X9 Y9 A9 C9
    obtain ⟨q, hqn, rfl, B20, X20, Y20, A20, C20⟩ := hrel
    by_cases hqlt : q < n
    · have t1 : (q : Int) < n := by omega
      have h0 : ¬ ((q : Int) < 0) := by omega
      obtain ⟨b', off, rfl, hlt0, hb0⟩ := hs.out.pos (by omega)
      have hlt := Lib.hid hlt0
      have HBY := Lib.hid hb0
      clear hlt0 hb0
      have HQL := Lib.hid (show q < us.length by rw [← hnl.out]; omega)
      obtain ⟨d, hdq⟩ : ∃ x, us.getD q [] = x := ⟨_, rfl⟩
      have LD := Lib.hid (show d.length = 32 by rw [← hdq]; exact (hd.out.get HQL.out).1)
      have HDQ := Lib.hid hdq
      have HIN := Lib.hid (show hasD A d = true by
        refine has_iff.2 ((HMA.out d).2 (.inr ?_))
        rw [← hdq, List.getD_eq_getElem?_getD, List.getElem?_eq_getElem HQL.out]
        exact List.getElem_mem HQL.out)
      clear hdq
      have hcc : (q : Int) ≤ cap := by have := hs.out.2.1; omega
      have hcm : (cap : Int) ≤ 9223372036854775807 := by have := hs.out.2.2.1; unfold maxLen at this; omega
      go_upto_region 14 with (first
        | (refine list_loadM (by rfl) (.tmp 94) rfl b' (off + q * 32) rfl d (by rw [← HDQ.out]; exact flat_at hd.out (HBY.out.below B20.out hlt.out) HQL.out) LD.out ?_)
        | (refine list_storeD rfl (.tmp 12) (.tmp 95) rfl wr.heap.size rfl d rfl LD.out _ (Dg.new wr) ?_))
      intro u3 d3 k3
      have K3 := Lib.hid ((bel_alloc1 wr _).trans (k3.below (Nat.le_refl _)))
      have D21 := Lib.hid d3
      have B21 := Lib.hid (bel_trans B20.out K3.out)
      have X21 := Lib.hid (X20.out.bel K3.out)
      have Y21 := Lib.hid (Y20.out.bel K3.out)
      have A21 := Lib.hid (A20.out.below K3.out)
      have C21 := Lib.hid (C20.out.below K3.out)
      clear d3 k3 K3 B20 X20 Y20 A20 C20
      generalize wr.heap.size = db at D21 ⊢
      go_wp2_with (first
        | (refine list_loadD (by rfl) (.tmp 12) rfl db rfl d D21.out ?_)
        | (go_at_call 19; with_reducible refine (rhas_is A d p1 (n + 1) c1 true _ HDA A21 (by omega) LD HIN).mono ?_; rintro e wj ⟨rfl, hb⟩; have B22 := Lib.hid (bel_trans B21.out hb); have X22 := Lib.hid (X21.out.bel hb); have Y22 := Lib.hid (Y21.out.bel hb); have A22 := Lib.hid (A21.out.below hb); have C22 := Lib.hid (C21.out.below hb); clear hb))
      go_roundw
      case rel => exact ⟨q + 1, by omega, by simp, B22, X22, Y22, A22, C22⟩
      case measure => simp [intOf]; omega
    · obtain rfl : q = n := by omega
      have t1 : ¬ ((q : Int) < q) := by omega
      go_upto_region 21 with (first
        | (refine list_loadR (by rfl) (.tmp 4) rfl w.heap.size rfl l k a b zs X20.out ?_)
        | (go_at_call 15; with_reducible refine (ospend_found l k a b zs A p1 (q + 1) c1 _ hz hrz HDA A20 (by omega) (Lib.hid (hk.out.below B20.out)) hE HAA ix HIX HXA).mono ?_; rintro e wk ⟨rfl, hb⟩; have B31 := Lib.hid (bel_trans B20.out hb); have X31 := Lib.hid (X20.out.bel hb); have Y31 := Lib.hid (Y20.out.bel hb); have A31 := Lib.hid (A20.out.below hb); have C31 := Lib.hid (C20.out.below hb); clear hb)
        | (refine list_loadR (by rfl) (.tmp 5) rfl (w.heap.size + 1) rfl l2 k2 a2 b2 ys Y31.out ?_)
        | (go_at_call 15; with_reducible refine (ospend_ok l2 k2 a2 b2 ys A p1 (q + 1) c1 _ hy hry HDA A31 (by omega) (Lib.hid (hk.out.below B31.out)) hG HAA iy HIY HYA).mono ?_; rintro e wl ⟨v7, rfl, o7, hb⟩; have B32 := Lib.hid (bel_trans B31.out hb); have X32 := Lib.hid (X31.out.bel hb); have Y32 := Lib.hid (Y31.out.bel hb); have A32 := Lib.hid (A31.out.below hb); have C32 := Lib.hid (C31.out.below hb); have O7 := Lib.hid o7; clear hb o7)
      )
      have HDE := Lib.hid (show Dgs (putD A ys iy) from HDA.out.put hy.out hry.out iy)
      have HLE : (putD A ys iy).length = q + 1 + 1 := by rw [putD_len A ys iy HIY.out.1, HLA]
      have hO := O7.out
      rw [HLE.symm] at hO
      obtain ⟨p3, c3, hv, hsE⟩ := ownR_src HDE.out hO
      rw [HLE] at hv hsE
      subst v7
      have F32 := Lib.hid (hsE.flat HDE.out)
      clear hO hsE O7
      go_upto_region 26 with (first
        | (refine list_loadM (by rfl) (.tmp 115) rfl w.heap.size 4 rfl zs X32.out.tag hz.out ?_)
        | (refine list_loadM (by rfl) (.tmp 117) rfl (w.heap.size + 1) 4 rfl ys Y32.out.tag hy.out ?_)
        | (refine list_loadR (by rfl) (.tmp 4) rfl w.heap.size rfl l k a b zs X32.out ?_)
        | (go_at_call 15; with_reducible refine (ospend_ok l k a b zs C p2 (q + 1) c2 _ hz hrz HDC C32 (by omega) (Lib.hid (hk.out.below B32.out)) hE HAC jx HJX HZC).mono ?_; rintro e wm ⟨v8, rfl, o8, hb⟩; have B33 := Lib.hid (bel_trans B32.out hb); have X33 := Lib.hid (X32.out.bel hb); have Y33 := Lib.hid (Y32.out.bel hb); have A33 := Lib.hid (A32.out.below hb); have C33 := Lib.hid (C32.out.below hb); have O8 := Lib.hid o8; have F33 := Lib.hid (F32.out.below hb); clear hb o8)
      )
      have HDG := Lib.hid (show Dgs (putD C zs jx) from HDC.out.put hz.out hrz.out jx)
      have HLG : (putD C zs jx).length = q + 1 + 1 := by rw [putD_len C zs jx HJX.out.1, HLC]
      have hO := O8.out
      rw [HLG.symm] at hO
      obtain ⟨p4, c4, hv, hsG⟩ := ownR_src HDG.out hO
      rw [HLG] at hv hsG
      subst v8
      have G33 := Lib.hid (show SrcD wm p4 (q + 1 + 1) c4 (putD A ys iy).flatten by rw [HSAME.out]; exact hsG.flat HDG.out)
      clear hO hsG O8
      go_wp2_with (go_at_call 17; with_reducible refine (rsame_any p3 p4 (q + 1 + 1) c3 c4 (putD A ys iy).flatten _ F33 G33 (by omega)).mono ?_; rintro e wn ⟨rfl, hb⟩; have B50 := Lib.hid (bel_trans B33.out hb); clear hb)
      go_ret
      exact ⟨rfl, B50.out⟩
theorem rc_two3 {l k a b E : Int} {zs : List Int} (h : IsRC l k a b zs E) : E = 160 ∨ E = 0 := by
  rcases h with ⟨_, rfl⟩ | ⟨hp, ds, hd, ⟨rfl, rfl⟩ | ⟨_, rfl⟩⟩
  · exact .inl rfl
  · exact .inr rfl
  · exact .inl rfl
set_option maxRecDepth 100000 in
theorem spent_walk (us : List (List Int)) (sp : Option Addr) (n cap : Nat) (l k a b : Int) (zs : List Int) (l2 k2 a2 b2 : Int) (ys : List Int) (w : World) (hz : Hid (zs.length = 32)) (hrz : Hid (∀ z ∈ zs, 0 ≤ z ∧ z ≤ 255)) (hy : Hid (ys.length = 32)) (hry : Hid (∀ z ∈ ys, 0 ≤ z ∧ z ≤ 255)) (hd : Hid (Dgs us)) (hs : Hid (SrcL w sp n cap us)) (hk : Hid (KeysAt w)) :
    Calls Tryz.prog 5 #[.slice sp n cap, .agg (rtv l k a b zs).toArray, .agg (rtv l2 k2 a2 b2 ys).toArray] w fun e w' => e = .returned (.bool true) ∧ Below w.heap.size w w' := by
  by_cases h40 : n ≤ 40
  case neg => exact spent_many us sp n cap l k a b zs l2 k2 a2 b2 ys w hz hrz hy hry hd hs hk (decide_eq_false h40)
  have HF : decide (n ≤ 40) = true := decide_eq_true h40
  by_cases hadj : adjOK us
  case neg => exact spent_uns us sp n cap l k a b zs l2 k2 a2 b2 ys w hz hrz hy hry hd hs hk h40 HF (Lib.hid hadj)
  have ha := Lib.hid hadj
  obtain ⟨E, he⟩ := isRC l k a b zs
  obtain ⟨G, hg'⟩ := isRC l2 k2 a2 b2 ys
  rcases rc_two3 he with rfl | rfl
  · exact spent_x us sp n cap l k a b zs l2 k2 a2 b2 ys w hz hrz hy hry hd hs hk h40 HF ha (Lib.hid he)
  have hE := Lib.hid he
  rcases rc_two3 hg' with rfl | rfl
  · exact spent_y us sp n cap l k a b zs l2 k2 a2 b2 ys w hz hrz hy hry hd hs hk h40 HF ha hE (Lib.hid hg')
  have hG := Lib.hid hg'
  obtain ⟨i, hi⟩ := isPos_ex hadj zs
  obtain ⟨j, hj⟩ := isPos_ex hadj ys
  have HI := Lib.hid hi
  have HJ := Lib.hid hj
  have hn2 : n ≤ 4000 := by omega
  cases hf : hasD us zs with
  | true =>
    cases hg : hasD us ys with
    | true => exact spent_old us sp n cap l k a b zs l2 k2 a2 b2 ys w hz hrz hy hry hd hs hk h40 HF ha hE hG i j HI HJ (Lib.hid hf) 161 (Lib.hid fun g hq => (ospend_found l2 k2 a2 b2 ys us sp n cap g hy hry hd (Lib.hid (hs.out.below hq)) hn2 (Lib.hid (hk.out.below hq)) hG ha j HJ (Lib.hid hg)).mono fun e w' h => ⟨_, h.1, h.2⟩)
    | false => exact spent_old us sp n cap l k a b zs l2 k2 a2 b2 ys w hz hrz hy hry hd hs hk h40 HF ha hE hG i j HI HJ (Lib.hid hf) 0 (Lib.hid fun g hq => (ospend_ok l2 k2 a2 b2 ys us sp n cap g hy hry hd (Lib.hid (hs.out.below hq)) hn2 (Lib.hid (hk.out.below hq)) hG ha j HJ (Lib.hid hg)).mono fun e w' ⟨v', h1, _, h3⟩ => ⟨v', h1, h3⟩)
  | false =>
    have EQ0 := eqDig_any zs ys hz.out hy.out
    by_cases hzy : zs = ys
    · cases hg : hasD us ys with
      | true => rw [hzy, hg] at hf; cases hf
      | false => exact spent_one us sp n cap l k a b zs l2 k2 a2 b2 ys w hz hrz hy hry hd hs hk h40 HF ha hE hG i j HI HJ (Lib.hid hf) (Lib.hid hg) (Lib.hid hzy) (fun w => by rw [EQ0 w, decide_eq_true hzy])
    · cases hg : hasD us ys with
      | true => exact spent_late us sp n cap l k a b zs l2 k2 a2 b2 ys w hz hrz hy hry hd hs hk h40 HF ha hE hG i j HI HJ (Lib.hid hf) (Lib.hid hg) (Lib.hid hzy) (fun w => by rw [EQ0 w, decide_eq_false hzy])
      | false => exact spent_both us sp n cap l k a b zs l2 k2 a2 b2 ys w hz hrz hy hry hd hs hk h40 HF ha hE hG i j HI HJ (Lib.hid hf) (Lib.hid hg) (Lib.hid hzy) (fun w => by rw [EQ0 w, decide_eq_false hzy])

namespace onetimeSpent
theorem readable : ∀ t ∈ Tryz.f5.params.toList, Tryz.prog.readableRec t = true ∧ t < Tryz.prog.types.size := by
  rw [Tryz.params5]
  intro t ht
  simp only [List.mem_cons, List.not_mem_nil, or_false] at ht
  rcases ht with rfl | rfl | rfl
  all_goals exact ⟨by kernel_rfl, by decide +kernel⟩

set_option maxRecDepth 100000 in
theorem lifted (os : Os) (started : os.Started) (H : Type) (enc : TypeId × Value → H) :
    ReturnsInHanded {} Tryz.checked os 5 .any (fun w args => (Rows.onetimeSpentSpec.pre enc Tryz.prog Tryz.f5 [] false w args ∧ laidMetH Tryz.prog laidK w) ∧ sizedMet enc Tryz.prog Tryz.f5 (OpenSpec.ofChange Rows.onetimeSpentSpec) false w args)
      (Rows.onetimeSpentSpec.post enc Tryz.prog Tryz.f5 false true false false) := by
  refine returnsInHanded_of_change_and (C := Tryz.checked) (X := fun w _ => laidMetH Tryz.prog laidK w) (fun _ _ _ hh h => h.of_heap hh) own_knob started (by kernel_rfl) Tryz.func5
    (ChangeSpec.witness_shaped (enc := enc) (C := Tryz.checked) (os := os) (X := fun w _ => laidMetH Tryz.prog laidK w) false (World.doorLaid Tryz.prog 400 os) #[.slice none 0 0, .agg (rtv 0 0 0 0 (List.replicate 32 0)).toArray, .agg (rtv 0 0 0 0 (List.replicate 32 0)).toArray] 8 rfl (World.shaped_of_RefB (by kernel_rfl) (by kernel_rfl)) (by kernel_rfl) (by kernel_rfl) (by kernel_rfl) (door_met os _)) ?_
  intro W base args ds gs before hval0 hW _ _ hL _
  have hval : ∀ (j : Nat) t v, Tryz.f5.params[j]? = some t → args[j]? = some v → Value.okWide Tryz.prog W .any base t v := hval0
  have hW' := hW
  obtain ⟨p, q, hA0, hV, rfl, hfz, hnd⟩ := hW
  have hA : DataW.TrodAll enc Tryz.prog W 0 (fun _ => true) true Tryz.f5.params.toList args.toList ds p := hA0
  rw [Tryz.params5] at hA hval
  obtain ⟨v0, vs0, d0, ds0, p0, q0, hargs, rfl, rfl, h0, r0⟩ := trodAll_cons hA
  obtain ⟨v1, vs1, d1, ds1, p1, q1, rfl, rfl, rfl, h1, r1⟩ := trodAll_cons r0
  obtain ⟨v2, vs2, d2, ds2, p2, q2, rfl, rfl, rfl, h2, r2⟩ := trodAll_cons r1
  obtain ⟨rfl, rfl, rfl⟩ := trodAll_nil r2
  obtain rfl : args = #[v0, v1, v2] := by cases args; simp_all
  obtain ⟨rfl, rfl⟩ := trodVars_none hV
  obtain ⟨s0, n0, c0, l0, rfl, w0, x0⟩ := open_digs (hval 0 36 v0 rfl rfl) h0
  obtain ⟨l1, k1, a1, b1, z1, rfl, w1, x1⟩ := open_ret (hval 1 27 v1 rfl rfl) h1
  obtain ⟨l2, k2, a2, b2, z2, rfl, w2, x2⟩ := open_ret (hval 2 27 v2 rfl rfl) h2
  have hK := of_laid hL
  clear hA0 hval0
  refine (spent_walk l0 s0 n0 c0 l1 k1 a1 b1 z1 l2 k2 a2 b2 z2 W (Lib.hid w1) (Lib.hid x1) (Lib.hid w2) (Lib.hid x2) (Lib.hid x0) (Lib.hid w0) (Lib.hid hK)).mono fun e W' ⟨he, hb⟩ => ?_
  subst he
  exact ⟨_, rfl, law_post laid_out readable rfl rfl Tryz.underlying4 hW' rfl rfl rfl hb⟩

theorem over : Rows.onetimeSpentRow.holds Tryz.pinned (OpenSpec.ofChange Rows.onetimeSpentSpec) :=
  OpenClaim.holds_of_wide 5 Tryz.f5 rfl rfl rfl rfl rfl rfl rfl ⟨rfl, rfl, rfl, rfl, rfl⟩ rfl rfl rfl rfl rfl (by kernel_rfl) Tryz.func5 (by kernel_rfl)
    (of_decide_eq_true (by kernel_rfl)) (by unfold Func.isWrapper; first | (rw [if_pos (by decide +kernel)]; kernel_rfl) | (rw [if_neg (by decide +kernel)]; exact ⟨rfl, rfl⟩))
    (fun os started H enc _ => lifted os started H enc)

/-- the statement: the tied card -/
theorem proved : Rows.OnetimeSpentCardSaid :=
  Claim7.holds_tied_plain_at .later [] [.data] true (true, "2945dd45cb54298148d20fc3ddd31a466de9b69a6089ff3bdcb76d6b52769d97") false
    over (fun _ h => by cases h) (by kernel_rfl) (fun _ h => by cases h) onetimeSpent_row_tie rfl ⟨rfl, rfl⟩ (by kernel_rfl) rfl
    (fun f fn hf hfn => by
      obtain rfl : f = 5 := Option.some.inj ((show Tryz.prog.funcNamed "franking/frankinglaw16.OnetimeSpent" = some 5 by kernel_rfl).symm.trans hf) |>.symm
      obtain rfl : fn = Tryz.f5 := (Option.some.inj (Tryz.func5.symm.trans hfn)).symm
      exact ⟨by kernel_rfl, fun j t ht => by
        rw [Tryz.params5] at ht
        have hm : t ∈ [36, 27, 27] := by simpa using Array.mem_of_getElem? ht
        have hall : ([36, 27, 27].all fun u => !Tryz.prog.wantsStandIn u) = true := by kernel_rfl
        exact (show Tryz.prog.wantsStandIn t = false by simpa using List.all_eq_true.1 hall t hm)⟩)
    (by kernel_rfl)
end onetimeSpent
end Go.Proofs.YtcedmiojmepioaaGreatDoor
