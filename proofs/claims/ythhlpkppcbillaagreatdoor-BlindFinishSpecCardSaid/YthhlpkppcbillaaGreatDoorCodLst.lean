/- A list of atoms written: codec.writeList. -/
import Derived.Test.YthhlpkppcbillaaGreatDoorCodVal
namespace Go.Proofs.YthhlpkppcbillaaGreatDoor
open Go.RowKit
set_option linter.unusedVariables false
set_option linter.unusedSimpArgs false

def Atom.ok : Atom → Prop
  | .int n => 0 ≤ n ∧ n < 4611686018427387904
  | .text s => s.length ≤ 1000000000 ∧ ∀ z ∈ s, 0 ≤ z ∧ z ≤ 255
def Atom.sz : Atom → Nat
  | .int _ => 40
  | .text s => 40 + s.length
def lenA (l : List Atom) : Nat := (l.map Atom.sz).sum
theorem lenA_cons (a : Atom) (l : List Atom) : lenA (a :: l) = a.sz + lenA l := by simp [lenA]
theorem lenA_append (l r : List Atom) : lenA (l ++ r) = lenA l + lenA r := by simp [lenA]
theorem lenA_take {l : List Atom} {k : Nat} (h : k < l.length) : lenA (l.take (k + 1)) = lenA (l.take k) + (l.getD k (.int 0)).sz ∧ lenA (l.take (k + 1)) ≤ lenA l := by
  have e : l.take (k + 1) = l.take k ++ [l.getD k (.int 0)] := by rw [List.take_succ_eq_append_getElem h]; simp [List.getD, h]
  refine ⟨by rw [e, lenA_append]; simp [lenA], ?_⟩
  have := lenA_append (l.take (k + 1)) (l.drop (k + 1))
  rw [List.take_append_drop] at this
  omega
theorem strL_strB {s : List Int} (h : ∀ z ∈ s, 0 ≤ z ∧ z ≤ 255) : strL (strB s) = s := by
  unfold strL strB
  rw [List.map_map]
  conv => rhs; rw [← List.map_id s]
  apply List.map_congr_left
  intro z hz
  have := h z hz
  show ((UInt8.ofNat z.toNat).toNat : Int) = z
  rw [UInt8.toNat_ofNat_of_lt' (by show z.toNat < 256; omega)]
  omega
theorem strB_size (s : List Int) : (strB s).size = s.length := by
  show ((s.map _).toArray).size = _
  simp
theorem zig_nat (n : Nat) : zig (n : Int) = 2 * n := by unfold zig; rw [if_pos (by omega)]; omega
theorem enc_len {a : Atom} (h : a.ok) : a.enc.length ≤ a.sz := by
  cases a with
  | int n =>
    obtain ⟨h1, h2⟩ := h
    obtain ⟨m, rfl⟩ := Int.eq_ofNat_of_zero_le h1
    have := numL_len (zig m) 9 (by rw [zig_nat]; simp; omega) (by omega)
    simp only [Atom.enc, Atom.sz, List.length_cons]; omega
  | text s =>
    have := numL_len s.length 9 (by have := h.1; simp; omega) (by omega)
    simp only [Atom.enc, Atom.sz, List.length_cons, List.length_append]; omega
set_option maxHeartbeats 1000000 in
theorem writeValue_atom (a : Atom) (ha : a.ok) (B : Nat) (v : Value) (xs : List Int) (w : World) (ho : Hid (Own8 w B v xs)) (hx : Hid (xs.length + a.sz ≤ 2000000000)) (hB : B ≤ w.heap.size) :
    Calls Tryz.prog 54 #[v, .agg #[.int .i64 a.kind, .int .i64 a.num, .string a.str, .slice none 0 0]] w fun e w' => ∃ v', e = .returned v' ∧ Own8 w' B v' (xs ++ a.enc) ∧ Kp B w w' := by
  cases a with
  | int n =>
    obtain ⟨h1, h2⟩ := ha
    obtain ⟨m, rfl⟩ := Int.eq_ofNat_of_zero_le h1
    simp only [Atom.enc, zig_nat]
    exact writeValue_int m B v xs w ho (by omega) (Lib.hid (by have := hx.out; simp only [Atom.sz] at this; omega)) hB
  | text s =>
    have h := writeValue_text (strB s) B v xs w ho (by rw [strB_size]; exact ha.1) (Lib.hid (by have := hx.out; simp only [Atom.sz] at this; rw [strB_size]; omega)) hB
    rw [strL_strB ha.2, strB_size] at h
    exact h
theorem encs_take {l : List Atom} {k : Nat} (h : k < l.length) : ((l.take (k + 1)).map Atom.enc).flatten = ((l.take k).map Atom.enc).flatten ++ (l.getD k (.int 0)).enc := by
  have e : l.take (k + 1) = l.take k ++ [l.getD k (.int 0)] := by rw [List.take_succ_eq_append_getElem h]; simp [List.getD, h]
  rw [e, List.map_append, List.flatten_append]; simp
theorem getD_mem' {l : List Atom} {k : Nat} (h : k < l.length) : l.getD k (.int 0) ∈ l := by
  rw [List.getD_eq_getElem?_getD, List.getElem?_eq_getElem h]; exact List.getElem_mem h
set_option maxRecDepth 100000 in
set_option maxHeartbeats 2000000 in
theorem writeList_own (l : List Atom) (b o n cap : Nat) (B : Nat) (v : Value) (xs : List Int) (w : World) (hn : Hid (n = l.length)) (hm : n ≤ 1000000) (hok : Hid (∀ a ∈ l, a.ok)) (hb : b < B) (hl : Hid (AtomsAt w b o l)) (ho : Hid (Own8 w B v xs)) (hx : Hid (xs.length + 30 + lenA l ≤ 2000000000)) (hB : B ≤ w.heap.size) :
    Calls Tryz.prog 81 #[v, .agg #[.int .i64 3, .int .i64 0, .string ⟨#[]⟩, .slice (some ⟨b, o, none⟩) n cap]] w fun e w' => ∃ v', e = .returned v' ∧ Own8 w' B v' (xs ++ (numL n ++ (l.map Atom.enc).flatten)) ∧ Kp B w w' := by
  go_enter Tryz.func81, Tryz.ntmps81
  go_wp2_with (go_at_call 93; refine (writeNumeral_own n B v xs _ (Lib.hid (own8_alloc ho.out _)) (by omega) (Lib.hid (by have := hx.out; omega)) (by simp; omega)).mono ?_; rintro e u1 ⟨v1, rfl, o1, k1⟩; have XB := Lib.hid (k1.2 _ _ _ (by decide) (Blk.new w #[.int .i64 3, .int .i64 0, .string ⟨#[]⟩, .slice (some ⟨b, o, none⟩) n cap] 54)); have f3 := XB.out.cell 3; have HO1 := Lib.hid o1; have HK1 := Lib.hid ((Kp.refl.alloc hB _).trans k1); clear o1 k1)
  clear f3
  go_loopw [0, 16] (fun x i wr => ∃ (k : Nat) (v2 : Value) (ys : List Int), k ≤ n ∧ v2 = x ∧ i = .int .i64 k ∧ Hid (Own8 wr B v2 ys) ∧ Hid (ys = xs ++ (numL n ++ ((l.take k).map Atom.enc).flatten)) ∧ Hid (ys.length ≤ xs.length + 20 + lenA (l.take k)) ∧ Hid (Kp B w wr)) (fun _ i _ => n - (intOf i).toNat)
  case atStart =>
    refine ⟨0, v1, _, by omega, rfl, rfl, HO1, Lib.hid (by simp), Lib.hid ?_, HK1⟩
    have := numL_len n 9 (by simp; omega) (by omega)
    simp; omega
  case round =>
    obtain ⟨k, v2, ys, hk, rfl, rfl, HO, HY, HL, HK⟩ := hrel
    by_cases hlt : k < n
    · have hbr : b < wr.heap.size := by have := HK.out.1.size; omega
      have hkl : k < l.length := by rw [← hn.out]; exact hlt
      obtain ⟨c0, c1, c2, c3⟩ := hl.out.below HK.out.1 hb k hkl
      have hsz := lenA_take hkl
      have hat := hok.out _ (getD_mem' hkl)
      have hen := encs_take hkl
      have hel := enc_len hat
      obtain ⟨at', hx'⟩ : ∃ x, l.getD k (.int 0) = x := ⟨_, rfl⟩
      rw [hx'] at c0 c1 c2 hsz hat hen hel
      have HX := Lib.hid hx'; have HS := Lib.hid hsz; have HA := Lib.hid hat; have HE := Lib.hid hen; have HEL := Lib.hid hel
      clear hx' hsz hat hen hel
      have hBr : B ≤ wr.heap.size := by have := HK.out.1.size; omega
      go_wp2_with (go_at_call 54; refine (writeValue_atom at' HA.out B v2 ys _ (Lib.hid (own8_alloc HO.out _)) (Lib.hid (by have := hx.out; have := HL.out; have := HS.out; omega)) (by simp; omega)).mono ?_; rintro e u1 ⟨v3, rfl, o1, k1⟩)
      refine ⟨⟨k + 1, v3, _, by omega, rfl, by simp, Lib.hid o1, Lib.hid ?_, Lib.hid ?_, Lib.hid ((HK.out.alloc hBr _).trans k1)⟩, ?_⟩
      · rw [HY.out, HE.out]; simp only [List.append_assoc]
      · have := HL.out; have := HS.out; have := HEL.out
        rw [List.length_append]; omega
      · simp only [intOf]; omega
    · obtain rfl : k = n := by omega
      go_wp2_with fail
      go_ret
      refine ⟨v2, rfl, ?_, HK.out⟩
      have h := HO.out
      rw [HY.out, List.take_of_length_le (by have := hn.out; omega)] at h
      exact h
end Go.Proofs.YthhlpkppcbillaaGreatDoor
