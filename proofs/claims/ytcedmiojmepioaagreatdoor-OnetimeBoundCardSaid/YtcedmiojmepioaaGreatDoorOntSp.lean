/- Package onetime: Spend. -/
import Derived.Test.YtcedmiojmepioaaGreatDoorOntChk
import Derived.Test.YtcedmiojmepioaaGreatDoorOntZA
namespace Go.Proofs.YtcedmiojmepioaaGreatDoor
open Go.RowKit
set_option linter.unusedVariables false
set_option linter.unusedSimpArgs false

set_option maxRecDepth 100000 in
set_option maxHeartbeats 4000000 in
theorem ospend_ret (l k a b : Int) (zs : List Int) (us : List (List Int)) (p : Option Addr) (n cap : Nat) (w : World) (hz : Hid (zs.length = 32)) (hr : Hid (∀ z ∈ zs, 0 ≤ z ∧ z ≤ 255)) (hd : Hid (Dgs us)) (hs : Hid (SrcL w p n cap us)) (hn : n ≤ 4000) (hk : Hid (KeysAt w)) (hE : Hid (IsRC l k a b zs 160)) :
    Calls Tryz.prog 15 #[.slice p n cap, .agg (rtv l k a b zs).toArray] w fun e w' => e = .returned (.tuple #[.slice none 0 0, .int .i64 160]) ∧ Below w.heap.size w w' := by
  have X0 := Lib.hid (RBlk.box w l k a b hz.out)
  have B0 := Lib.hid (bel_alloc1 w (.cells (rtv l k a b zs).toArray 27))
  have hnl := Lib.hid hs.out.1
  have h4 : (n : Int) < 4096 := by omega
  go_enter Tryz.func15, Tryz.ntmps15
  go_wp2_with (first
    | (refine list_loadR (by rfl) (.tmp 3) rfl w.heap.size rfl l k a b zs X0.out ?_)
    | (go_at_call 10; refine (ocheck_any l k a b zs 160 _ hz hE (Lib.hid (hk.out.below B0.out))).mono ?_; rintro e w1 ⟨rfl, hb⟩; have B1 := Lib.hid (bel_trans B0.out hb); have X1 := Lib.hid (X0.out.bel hb); clear hb)
  )
  go_ret2
  exact ⟨rfl, B1.out⟩
set_option maxRecDepth 100000 in
set_option maxHeartbeats 4000000 in
theorem ospend_uns (l k a b : Int) (zs : List Int) (us : List (List Int)) (p : Option Addr) (n cap : Nat) (w : World) (hz : Hid (zs.length = 32)) (hr : Hid (∀ z ∈ zs, 0 ≤ z ∧ z ≤ 255)) (hd : Hid (Dgs us)) (hs : Hid (SrcL w p n cap us)) (hn : n ≤ 4000) (hk : Hid (KeysAt w)) (hE : Hid (IsRC l k a b zs 0)) (ha : Hid (¬ adjOK us)) :
    Calls Tryz.prog 15 #[.slice p n cap, .agg (rtv l k a b zs).toArray] w fun e w' => e = .returned (.tuple #[.slice none 0 0, .int .i64 160]) ∧ Below w.heap.size w w' := by
  have X0 := Lib.hid (RBlk.box w l k a b hz.out)
  have B0 := Lib.hid (bel_alloc1 w (.cells (rtv l k a b zs).toArray 27))
  have hnl := Lib.hid hs.out.1
  have h4 : (n : Int) < 4096 := by omega
  go_enter Tryz.func15, Tryz.ntmps15
  go_wp2_with (first
    | (refine list_loadR (by rfl) (.tmp 3) rfl w.heap.size rfl l k a b zs X0.out ?_)
    | (go_at_call 10; refine (ocheck_any l k a b zs 0 _ hz hE (Lib.hid (hk.out.below B0.out))).mono ?_; rintro e w1 ⟨rfl, hb⟩; have B1 := Lib.hid (bel_trans B0.out hb); have X1 := Lib.hid (X0.out.bel hb); clear hb)
    | (go_at_call 31; refine (oinc_is us p n cap false _ hd (Lib.hid (hs.out.below B1.out)) hn (Lib.hid ⟨(fun h => by cases h), fun h => absurd h ha.out⟩)).mono ?_; rintro e w2 ⟨rfl, hb⟩; have B2 := Lib.hid (bel_trans B1.out hb); have X2 := Lib.hid (X1.out.bel hb); clear hb)
  )
  go_ret2
  exact ⟨rfl, B2.out⟩
set_option maxRecDepth 100000 in
set_option maxHeartbeats 4000000 in
theorem ospend_found (l k a b : Int) (zs : List Int) (us : List (List Int)) (p : Option Addr) (n cap : Nat) (w : World) (hz : Hid (zs.length = 32)) (hr : Hid (∀ z ∈ zs, 0 ≤ z ∧ z ≤ 255)) (hd : Hid (Dgs us)) (hs : Hid (SrcL w p n cap us)) (hn : n ≤ 4000) (hk : Hid (KeysAt w)) (hE : Hid (IsRC l k a b zs 0)) (ha : Hid (adjOK us)) (i : Nat) (hp : Hid (IsPos us zs i)) (hf : Hid (hasD us zs = true)) :
    Calls Tryz.prog 15 #[.slice p n cap, .agg (rtv l k a b zs).toArray] w fun e w' => e = .returned (.tuple #[.slice none 0 0, .int .i64 161]) ∧ Below w.heap.size w w' := by
  have X0 := Lib.hid (RBlk.box w l k a b hz.out)
  have B0 := Lib.hid (bel_alloc1 w (.cells (rtv l k a b zs).toArray 27))
  have hnl := Lib.hid hs.out.1
  have h4 : (n : Int) < 4096 := by omega
  go_enter Tryz.func15, Tryz.ntmps15
  go_wp2_with (first
    | (refine list_loadR (by rfl) (.tmp 3) rfl w.heap.size rfl l k a b zs X0.out ?_)
    | (go_at_call 10; refine (ocheck_any l k a b zs 0 _ hz hE (Lib.hid (hk.out.below B0.out))).mono ?_; rintro e w1 ⟨rfl, hb⟩; have B1 := Lib.hid (bel_trans B0.out hb); have X1 := Lib.hid (X0.out.bel hb); clear hb)
    | (go_at_call 31; refine (oinc_is us p n cap true _ hd (Lib.hid (hs.out.below B1.out)) hn (Lib.hid ⟨fun _ => ha.out, fun _ => rfl⟩)).mono ?_; rintro e w2 ⟨rfl, hb⟩; have B2 := Lib.hid (bel_trans B1.out hb); have X2 := Lib.hid (X1.out.bel hb); clear hb)
    | (refine list_loadM (by rfl) (.tmp 17) rfl w.heap.size 4 rfl zs X2.out.tag hz.out ?_)
    | (go_at_call 33; refine (oput_found us zs i n cap p _ hd (Lib.hid (hs.out.below B2.out)) hn hz hr ha hp hf).mono ?_; rintro e w3 ⟨rfl, hb⟩; have B3 := Lib.hid (bel_trans B2.out hb); clear hb)
  )
  go_ret2
  exact ⟨rfl, B3.out⟩
set_option maxRecDepth 100000 in
set_option maxHeartbeats 4000000 in
theorem ospend_ok (l k a b : Int) (zs : List Int) (us : List (List Int)) (p : Option Addr) (n cap : Nat) (w : World) (hz : Hid (zs.length = 32)) (hr : Hid (∀ z ∈ zs, 0 ≤ z ∧ z ≤ 255)) (hd : Hid (Dgs us)) (hs : Hid (SrcL w p n cap us)) (hn : n ≤ 4000) (hk : Hid (KeysAt w)) (hE : Hid (IsRC l k a b zs 0)) (ha : Hid (adjOK us)) (i : Nat) (hp : Hid (IsPos us zs i)) (hf : Hid (hasD us zs = false)) :
    Calls Tryz.prog 15 #[.slice p n cap, .agg (rtv l k a b zs).toArray] w fun e w' => ∃ v', e = .returned (.tuple #[v', .int .i64 0]) ∧ OwnR w' w.heap.size v' (n + 1) (putD us zs i).flatten ∧ Below w.heap.size w w' := by
  have X0 := Lib.hid (RBlk.box w l k a b hz.out)
  have B0 := Lib.hid (bel_alloc1 w (.cells (rtv l k a b zs).toArray 27))
  have hnl := Lib.hid hs.out.1
  have h4 : (n : Int) < 4096 := by omega
  go_enter Tryz.func15, Tryz.ntmps15
  go_wp2_with (first
    | (refine list_loadR (by rfl) (.tmp 3) rfl w.heap.size rfl l k a b zs X0.out ?_)
    | (go_at_call 10; refine (ocheck_any l k a b zs 0 _ hz hE (Lib.hid (hk.out.below B0.out))).mono ?_; rintro e w1 ⟨rfl, hb⟩; have B1 := Lib.hid (bel_trans B0.out hb); have X1 := Lib.hid (X0.out.bel hb); clear hb)
    | (go_at_call 31; refine (oinc_is us p n cap true _ hd (Lib.hid (hs.out.below B1.out)) hn (Lib.hid ⟨fun _ => ha.out, fun _ => rfl⟩)).mono ?_; rintro e w2 ⟨rfl, hb⟩; have B2 := Lib.hid (bel_trans B1.out hb); have X2 := Lib.hid (X1.out.bel hb); clear hb)
    | (refine list_loadM (by rfl) (.tmp 17) rfl w.heap.size 4 rfl zs X2.out.tag hz.out ?_)
    | (go_at_call 33; refine (oput_ok us zs i n cap p _ hd (Lib.hid (hs.out.below B2.out)) hn hz hr ha hp hf).mono ?_; rintro e w3 ⟨v3, rfl, o3, hb⟩; have O3 := Lib.hid (ownR_base o3 B2.out.size); have B3 := Lib.hid (bel_trans B2.out hb); clear hb o3)
  )
  go_ret2
  exact ⟨v3, rfl, O3.out, B3.out⟩
end Go.Proofs.YtcedmiojmepioaaGreatDoor
