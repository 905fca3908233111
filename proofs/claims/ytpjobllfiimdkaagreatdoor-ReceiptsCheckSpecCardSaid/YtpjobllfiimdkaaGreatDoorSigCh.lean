/- Package sign: challenges; hashes told by a predicate. -/
import Derived.Test.YtpjobllfiimdkaaGreatDoorSigTxt
import Derived.Test.YtpjobllfiimdkaaGreatDoorSigM
namespace Go.Proofs.YtpjobllfiimdkaaGreatDoor
open Go.RowKit
set_option linter.unusedVariables false
set_option linter.unusedSimpArgs false

theorem encL_rng {l : List Atom} (hok : ∀ a ∈ l, a.ok) : ∀ z ∈ encL l, 0 ≤ z ∧ z ≤ 255 := by
  intro z hz
  unfold encL at hz
  rcases List.mem_cons.1 hz with rfl | hz
  · omega
  rcases List.mem_append.1 hz with hz | hz
  · exact numL_rng _ z hz
  rw [List.mem_flatten] at hz
  obtain ⟨r, hr, hz⟩ := hz
  rw [List.mem_map] at hr
  obtain ⟨a, ha, rfl⟩ := hr
  have hk := hok a ha
  cases a with
  | int n =>
    rcases List.mem_cons.1 hz with rfl | hz
    · omega
    · exact numL_rng _ z hz
  | text s =>
    rcases List.mem_cons.1 hz with rfl | hz
    · omega
    rcases List.mem_append.1 hz with hz | hz
    · exact numL_rng _ z hz
    · exact hk.2 z hz
theorem encs_len : ∀ {l : List Atom}, (∀ a ∈ l, a.ok) → ((l.map Atom.enc).flatten).length ≤ lenA l
  | [], _ => by simp
  | a :: l, h => by
    have h1 := enc_len (h a List.mem_cons_self)
    have h2 := encs_len (fun b hb => h b (List.mem_cons_of_mem _ hb))
    rw [List.map_cons, List.flatten_cons, List.length_append, lenA_cons]; omega
theorem encL_len {l : List Atom} (hok : ∀ a ∈ l, a.ok) (hl : l.length ≤ 1000) : (encL l).length ≤ 20 + lenA l := by
  have h1 := numL_len l.length 9 (by simp; omega) (by omega)
  have h2 := encs_len hok
  unfold encL
  rw [List.length_cons, List.length_append]; omega
theorem hash_is (s : ByteArray) (t : List Int) (p : Option Addr) (m cap : Nat) (bs : List Int) (w : World) (hst : strL s = t) (hz : Hid (SrcW w p m cap bs)) (hr : Hid (∀ z ∈ bs, 0 ≤ z ∧ z ≤ 255)) (hs : s.size ≤ 100000000) (hn : m ≤ 100000000) (hk : Hid (KeysAt w)) (h : Int) (hh : Hid (IsHash t bs h)) :
    Calls Tryz.prog 37 #[.string s, .slice p m cap] w fun e w' => e = .returned (.int .i64 h) ∧ Below w.heap.size w w' := by
  obtain ⟨ts, ds, h1, h2, h3⟩ := hh.out
  subst h3
  exact hash_any s p m cap bs w hz hr hs hn hk ts ds (Lib.hid (by rw [hst]; exact h1)) (Lib.hid h2)
theorem strSign : strL ⟨#[115, 105, 103, 110]⟩ = tSign := rfl
theorem strNonce : strL ⟨#[110, 111, 110, 99, 101]⟩ = tNonce := rfl
def txOk (bs : List Int) : Prop := bs.length ≤ 1000000 ∧ ∀ z ∈ bs, 0 ≤ z ∧ z ≤ 255
theorem ok3 {a b : Int} {bs : List Int} (ha : 0 ≤ a ∧ a < 2147483579) (hb : 0 ≤ b ∧ b < 2147483579) (hs : txOk bs) : ∀ x ∈ [Atom.int a, .int b, .text bs], x.ok := by
  intro x hx
  simp only [List.mem_cons, List.not_mem_nil, or_false] at hx
  rcases hx with rfl | rfl | rfl
  · exact ⟨by omega, by omega⟩
  · exact ⟨by omega, by omega⟩
  · exact ⟨by have := hs.1; omega, hs.2⟩
theorem ok2 {a : Int} {bs : List Int} (ha : 0 ≤ a ∧ a < 2147483579) (hs : txOk bs) : ∀ x ∈ [Atom.int a, .text bs], x.ok := by
  intro x hx
  simp only [List.mem_cons, List.not_mem_nil, or_false] at hx
  rcases hx with rfl | rfl
  · exact ⟨by omega, by omega⟩
  · exact ⟨by have := hs.1; omega, hs.2⟩
theorem lenA3 (a b : Int) (bs : List Int) : lenA [.int a, .int b, .text bs] = 120 + bs.length := by simp [lenA, Atom.sz]; omega
theorem lenA2 (a : Int) (bs : List Int) : lenA [.int a, .text bs] = 80 + bs.length := by simp [lenA, Atom.sz]; omega
theorem text3 (a b : Int) (p : Option Addr) (m c : Nat) (bs : List Int) (w : World) (ha : 0 ≤ a ∧ a < 2147483579) (hb : 0 ≤ b ∧ b < 2147483579) (hs : Hid (txOk bs)) (hz : Hid (SrcW w p m c bs)) (N : Nat) (hN : w.heap.size = N) :
    Calls Tryz.prog 38 #[.slice (some ⟨N, 0, none⟩) 3 3] (w.alloc (.cells #[.iface 3 (.int .i64 a), .iface 3 (.int .i64 b), .iface 51 (.slice p m c)] 20))
      fun e w' => ∃ v', e = .returned v' ∧ Own8 w' w.heap.size v' (encL [.int a, .int b, .text bs]) ∧ Below w.heap.size w w' := by
  subst hN
  have hB := Blk.new w #[.iface 3 (.int .i64 a), .iface 3 (.int .i64 b), .iface 51 (.slice p m c)] 20
  have hb1 := bel_alloc1 w (.cells #[.iface 3 (.int .i64 a), .iface 3 (.int .i64 b), .iface 51 (.slice p m c)] 20)
  refine (text_items [.int a, .int b, .text bs] w.heap.size 3 _ (Lib.hid rfl) (by omega) (by omega) (Lib.hid (ok3 ha hb hs.out)) hB.lt (Lib.hid ?_) (Lib.hid (by rw [lenA3]; have := hs.out.1; omega))).mono ?_
  · intro k hk
    have hk' : k < 3 := hk
    rcases (by omega : k = 0 ∨ k = 1 ∨ k = 2) with rfl | rfl | rfl
    · exact ⟨_, hB.cell 0, rfl⟩
    · exact ⟨_, hB.cell 1, rfl⟩
    · exact ⟨_, hB.cell 2, p, m, c, rfl, hz.out.below hb1⟩
  · rintro e w' ⟨v', rfl, h1, h2⟩
    exact ⟨v', rfl, own8_mono h1 hb1.size, bel_trans hb1 h2⟩
theorem text2 (a : Int) (p : Option Addr) (m c : Nat) (bs : List Int) (w : World) (ha : 0 ≤ a ∧ a < 2147483579) (hs : Hid (txOk bs)) (hz : Hid (SrcW w p m c bs)) (N : Nat) (hN : w.heap.size = N) :
    Calls Tryz.prog 38 #[.slice (some ⟨N, 0, none⟩) 2 2] (w.alloc (.cells #[.iface 3 (.int .i64 a), .iface 51 (.slice p m c)] 20))
      fun e w' => ∃ v', e = .returned v' ∧ Own8 w' w.heap.size v' (encL [.int a, .text bs]) ∧ Below w.heap.size w w' := by
  subst hN
  have hB := Blk.new w #[.iface 3 (.int .i64 a), .iface 51 (.slice p m c)] 20
  have hb1 := bel_alloc1 w (.cells #[.iface 3 (.int .i64 a), .iface 51 (.slice p m c)] 20)
  refine (text_items [.int a, .text bs] w.heap.size 2 _ (Lib.hid rfl) (by omega) (by omega) (Lib.hid (ok2 ha hs.out)) hB.lt (Lib.hid ?_) (Lib.hid (by rw [lenA2]; have := hs.out.1; omega))).mono ?_
  · intro k hk
    have hk' : k < 2 := hk
    rcases (by omega : k = 0 ∨ k = 1) with rfl | rfl
    · exact ⟨_, hB.cell 0, rfl⟩
    · exact ⟨_, hB.cell 1, p, m, c, rfl, hz.out.below hb1⟩
  · rintro e w' ⟨v', rfl, h1, h2⟩
    exact ⟨v', rfl, own8_mono h1 hb1.size, bel_trans hb1 h2⟩
/-- what an encoding is hashed to -/
theorem hash_own (s : ByteArray) (t : List Int) (l : List Atom) (B : Nat) (v : Value) (w : World) (hst : strL s = t) (hv : Hid (Own8 w B v (encL l))) (hok : Hid (∀ a ∈ l, a.ok)) (hl : l.length ≤ 1000) (hx : lenA l ≤ 50000000) (hs : s.size ≤ 100000000) (hk : Hid (KeysAt w)) (h : Int) (hh : Hid (IsHash t (encL l) h)) :
    Calls Tryz.prog 37 #[.string s, v] w fun e w' => e = .returned (.int .i64 h) ∧ Below w.heap.size w w' := by
  obtain ⟨p, cap, rfl, h1, h2, h3, _⟩ := own8_src hv.out
  exact hash_is s t p _ cap (encL l) w hst (Lib.hid (.inl h1)) (Lib.hid (encL_rng hok.out)) hs (by have := encL_len hok.out hl; omega) hk h hh
set_option maxRecDepth 100000 in
set_option maxHeartbeats 2000000 in
theorem challenge_any (a b : Int) (p : Option Addr) (m c : Nat) (bs : List Int) (w : World) (ha : 0 ≤ a ∧ a < 2147483579) (hb : 0 ≤ b ∧ b < 2147483579) (hs : Hid (txOk bs)) (hz : Hid (SrcW w p m c bs)) (hk : Hid (KeysAt w)) (h : Int) (hh : Hid (IsCh a b bs h)) :
    Calls Tryz.prog 40 #[.int .i64 a, .int .i64 b, .slice p m c] w fun e w' => e = .returned (.int .i64 h) ∧ Below w.heap.size w w' := by
  have HA := Lib.hid ha; have HB := Lib.hid hb; clear ha hb
  go_enter Tryz.func40, Tryz.ntmps40
  go_wp2_with (first
    | (go_at_call 38; refine (text3 a b p m c bs w HA.out HB.out hs hz _ rfl).mono ?_; rintro e u1 ⟨v1, rfl, o1, k1⟩; have O1 := Lib.hid o1; have K1 := Lib.hid k1; clear o1 k1)
    | (go_at_call 37; refine (hash_own _ tSign _ _ v1 u1 strSign O1 (Lib.hid (ok3 HA.out HB.out hs.out)) (by simp) (by rw [lenA3]; have := hs.out.1; omega) (by decide) (Lib.hid (hk.out.below K1.out)) h hh).mono ?_; rintro e u2 ⟨rfl, k2⟩; have K2 := Lib.hid (bel_trans K1.out k2); clear k2))
  go_ret
  exact ⟨rfl, K2.out⟩
end Go.Proofs.YtpjobllfiimdkaaGreatDoor
