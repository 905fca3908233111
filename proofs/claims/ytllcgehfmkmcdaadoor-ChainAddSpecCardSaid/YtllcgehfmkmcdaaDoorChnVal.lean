/- Package chain: the values of integers and texts, and their encoding; the same of the reference. -/
import Derived.Test.YtllcgehfmkmcdaaDoorChnMem
import Derived.Test.YtllcgehfmkmcdaaDoorConvB
import Derived.Test.YtllcgehfmkmcdaaDoorEncL
import Derived.Test.YtllcgehfmkmcdaaDoorRefCodZ
import Derived.Test.YtllcgehfmkmcdaaDoorDigTag
import Derived.Test.YtllcgehfmkmcdaaDoorRefTZ
namespace Go.Proofs.YtllcgehfmkmcdaaDoor
open Go.RowKit
set_option linter.unusedVariables false
set_option linter.unusedSimpArgs false

set_option maxRecDepth 100000 in
set_option maxHeartbeats 2000000 in
theorem cnum_is (n : Int) (w : World)  : Calls Tryd.prog 29 #[.int .i64 n] w fun e w' => e = .returned (.agg #[.int .i64 1, .int .i64 n, .string ⟨#[]⟩, .slice none 0 0]) ∧ Below w.heap.size w w' := by
  go_enter Tryd.func29, Tryd.ntmps29
  go_wp2_with fail
  refine bodyPost_ret (v := .agg #[.int .i64 1, .int .i64 n, .string ⟨#[]⟩, .slice none 0 0]) (by simp [results, Tryd.results29, go_sem]) rfl ⟨rfl, ?_⟩
  repeat refine Below.setCell ?_ (by simp) _
  exact bel_alloc1 w _
set_option maxRecDepth 100000 in
set_option maxHeartbeats 2000000 in
theorem ctxt_is (p : Option Addr) (m c : Nat) (bs : List Int) (st : ByteArray) (w : World) (hz : Hid (SrcW w p m c bs)) (hst : Hid (strB bs = st)) : Calls Tryd.prog 30 #[.slice p m c] w fun e w' => e = .returned (.agg #[.int .i64 2, .int .i64 0, .string st, .slice none 0 0]) ∧ Below w.heap.size w w' := by
  have hconv := conv_srcW (hz.out.below (bel_alloc1 w (.cells #[.int .i64 0, .int .i64 0, .string ⟨#[]⟩, .slice none 0 0] 54)))
  rw [hst.out] at hconv
  go_enter Tryd.func30, Tryd.ntmps30
  go_wp2_with fail
  refine bodyPost_ret (v := .agg #[.int .i64 2, .int .i64 0, .string st, .slice none 0 0]) (by simp [results, Tryd.results30, go_sem]) rfl ⟨rfl, ?_⟩
  repeat refine Below.setCell ?_ (by simp) _
  exact bel_alloc1 w _
set_option maxRecDepth 100000 in
set_option maxHeartbeats 2000000 in
theorem rcnum_is (n : Int) (w : World)  : Calls Tryd.prog 38 #[.int .i64 n] w fun e w' => e = .returned (.agg #[.int .i64 1, .int .i64 n, .string ⟨#[]⟩, .slice none 0 0]) ∧ Below w.heap.size w w' := by
  go_enter Tryd.func38, Tryd.ntmps38
  go_wp2_with fail
  refine bodyPost_ret (v := .agg #[.int .i64 1, .int .i64 n, .string ⟨#[]⟩, .slice none 0 0]) (by simp [results, Tryd.results38, go_sem]) rfl ⟨rfl, ?_⟩
  repeat refine Below.setCell ?_ (by simp) _
  exact bel_alloc1 w _
set_option maxRecDepth 100000 in
set_option maxHeartbeats 2000000 in
theorem rctxt_is (p : Option Addr) (m c : Nat) (bs : List Int) (st : ByteArray) (w : World) (hz : Hid (SrcW w p m c bs)) (hst : Hid (strB bs = st)) : Calls Tryd.prog 39 #[.slice p m c] w fun e w' => e = .returned (.agg #[.int .i64 2, .int .i64 0, .string st, .slice none 0 0]) ∧ Below w.heap.size w w' := by
  have hconv := conv_srcW (hz.out.below (bel_alloc1 w (.cells #[.int .i64 0, .int .i64 0, .string ⟨#[]⟩, .slice none 0 0] 54)))
  rw [hst.out] at hconv
  go_enter Tryd.func39, Tryd.ntmps39
  go_wp2_with fail
  refine bodyPost_ret (v := .agg #[.int .i64 2, .int .i64 0, .string st, .slice none 0 0]) (by simp [results, Tryd.results39, go_sem]) rfl ⟨rfl, ?_⟩
  repeat refine Below.setCell ?_ (by simp) _
  exact bel_alloc1 w _
set_option maxRecDepth 100000 in
set_option maxHeartbeats 2000000 in
theorem cenc_is (l : List Atom) (b o n cap : Nat) (w : World) (hn : Hid (n = l.length)) (hm : n ≤ 1000) (hok : Hid (∀ a ∈ l, a.ok)) (hb : b < w.heap.size) (hl : Hid (AtomsAt w b o l)) (hx : Hid (60 + lenA l ≤ 2000000000)) :
    Calls Tryd.prog 28 #[.slice (some ⟨b, o, none⟩) n cap] w fun e w' => ∃ v', e = .returned v' ∧ Own8 w' w.heap.size v' (encL l) ∧ Below w.heap.size w w' := by
  go_enter Tryd.func28, Tryd.ntmps28
  go_wp2_with (go_at_call 35; refine (encode_list l b o n cap _ hn (by omega) hok hb hl hx).mono ?_; rintro e w1 ⟨v1, rfl, o1, hb1⟩)
  go_ret
  exact ⟨v1, rfl, o1, hb1⟩
theorem tagged_is (s : ByteArray) (tag : List Int) (p : Option Addr) (m cap : Nat) (bs ds : List Int) (w : World) (hst : strL s = tag) (hz : Hid (SrcW w p m cap bs)) (hr : Hid (∀ z ∈ bs, 0 ≤ z ∧ z ≤ 255)) (hs : s.size ≤ 100000000) (hn : m ≤ 100000000) (hk : Hid (KeysAt w)) (hd : Hid (IsTg tag bs ds)) :
    Calls Tryd.prog 19 #[.string s, .slice p m cap] w fun e w' => e = .returned (.agg (bv ds).toArray) ∧ Below w.heap.size w w' := by
  subst hst
  obtain ⟨ts, h1, h2⟩ := hd.out.ex
  exact tagged_any s p m cap bs w hz hr hs hn hk ts ds (Lib.hid h1) (Lib.hid h2)
theorem rtagged_is (s : ByteArray) (tag : List Int) (p : Option Addr) (m cap : Nat) (bs ds : List Int) (w : World) (hst : strL s = tag) (hz : Hid (SrcW w p m cap bs)) (hr : Hid (∀ z ∈ bs, 0 ≤ z ∧ z ≤ 255)) (hs : s.size ≤ 100000000) (hn : m ≤ 100000000) (hd : Hid (IsTg tag bs ds)) :
    Calls Tryd.prog 34 #[.string s, .slice p m cap] w fun e w' => e = .returned (.agg (bv ds).toArray) ∧ Below w.heap.size w w' := by
  subst hst
  obtain ⟨ts, h1, h2⟩ := hd.out.ex
  exact rtagged_any s p m cap bs w hz hr hs hn ts ds (Lib.hid h1) (Lib.hid h2)
theorem load_dig {w : World} {b : Nat} {zs : List Int} (h : Dg w b zs) : (loadVar 35 ⟨b, 0, none⟩).run Tryd.prog w = .ok (.agg (bv zs).toArray) w :=
  run_loadVar_mid w b 0 35 (bv zs) _ h.1.range Tryd.underlying35 rfl (size32' zs h.2)
theorem own8_tag {w : World} {B : Nat} {v : Value} {zs : List Int} (h : Own8 w B v zs) : ∃ p c, v = .slice p zs.length c ∧ SrcW w p zs.length c zs := by
  obtain ⟨p, cap, rfl, s1, _⟩ := own8_src h
  exact ⟨p, cap, rfl, .inl s1⟩
/-- a link's text is short, and can be encoded -/
structure LkSm (x : Lk) : Prop where
  ok : ∀ a ∈ lkA x, a.ok
  len : 60 + lenA (lkA x) ≤ 100000
theorem lkSm {w : World} {x : Lk} (h : LkOk w x) (hl : x.bs.length ≤ 400) : LkSm x := by
  refine ⟨?_, ?_⟩
  · intro a ha
    simp only [lkA, List.mem_cons, List.not_mem_nil, or_false] at ha
    rcases ha with rfl | rfl | rfl | rfl
    · exact h.i1
    · exact h.i2
    · exact ⟨by have := h.len; omega, h.rng⟩
    · exact ⟨by omega, h.byt⟩
  · have := h.len
    simp [lenA, lkA, Atom.sz]
    omega
theorem lkT_len {x : Lk} (h : LkSm x) : (lkT x).length ≤ 200000 := by
  have := encL_len h.ok (by simp [lkA])
  have := h.len
  unfold lkT
  omega
theorem lkT_rng {x : Lk} (h : LkSm x) : ∀ z ∈ lkT x, 0 ≤ z ∧ z ≤ 255 := encL_rng h.ok
end Go.Proofs.YtllcgehfmkmcdaaDoor
