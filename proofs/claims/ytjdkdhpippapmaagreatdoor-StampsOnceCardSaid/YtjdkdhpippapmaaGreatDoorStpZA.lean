/- bytes.Compare of two digests; the order of digests. Lists of digests: in memory, in order. Lists of digests: appended zeros, copies into a row of one's own. slices.Clip and slices.Insert of digests. Package stamps: the order of the serials that were used, and the search for one. The search for a digest among those that were used. -/
import Derived.Test.YtjdkdhpippapmaaGreatDoorDigStC
import Derived.Laws.Externs
import Derived.Lib.BytesEntry
import Derived.Laws.AppendOwn
import Derived.Laws.AppendOwnNone
import Derived.ArgAppend
import Derived.Test.YtjdkdhpippapmaaGreatDoorDigPadW
import Derived.Lib.AppendZerosOnto
import Derived.Laws.CopyRow
import Derived.Test.YtjdkdhpippapmaaGreatDoorRegU
namespace Go.Proofs.YtjdkdhpippapmaaGreatDoor
open Go.RowKit
set_option linter.unusedVariables false
set_option linter.unusedSimpArgs false

/-- the order of texts -/
def cmpZ : List Int → List Int → Int
  | [], [] => 0
  | [], _ :: _ => -1
  | _ :: _, [] => 1
  | a :: ar, b :: bs => if a < b then -1 else if b < a then 1 else cmpZ ar bs
theorem cmpZ_val : ∀ xs ys : List Int, cmpZ xs ys = -1 ∨ cmpZ xs ys = 0 ∨ cmpZ xs ys = 1
  | [], [] => .inr (.inl rfl)
  | [], _ :: _ => .inl rfl
  | _ :: _, [] => .inr (.inr rfl)
  | a :: ar, b :: bs => by
    unfold cmpZ
    split
    · exact .inl rfl
    · split
      · exact .inr (.inr rfl)
      · exact cmpZ_val ar bs
theorem cmpZ_eq : ∀ xs ys : List Int, cmpZ xs ys = 0 ↔ xs = ys
  | [], [] => by simp [cmpZ]
  | [], _ :: _ => by simp [cmpZ]
  | _ :: _, [] => by simp [cmpZ]
  | a :: ar, b :: bs => by
    unfold cmpZ
    split
    · simp; intro h; omega
    · split
      · simp; intro h; omega
      · rw [cmpZ_eq ar bs]
        have : a = b := by omega
        simp [this]
theorem cmpZ_self (xs : List Int) : cmpZ xs xs = 0 := (cmpZ_eq xs xs).2 rfl
theorem cmpZ_swap : ∀ xs ys : List Int, cmpZ ys xs = - cmpZ xs ys
  | [], [] => by simp [cmpZ]
  | [], _ :: _ => by simp [cmpZ]
  | _ :: _, [] => by simp [cmpZ]
  | a :: ar, b :: bs => by
    unfold cmpZ
    rcases (by omega : a < b ∨ b < a ∨ a = b) with h | h | h
    · simp [h, show ¬ b < a by omega]
    · simp [h, show ¬ a < b by omega]
    · subst h; simp; exact cmpZ_swap ar bs
theorem cmpZ_trans : ∀ xs ys zs : List Int, cmpZ xs ys < 0 → cmpZ ys zs < 0 → cmpZ xs zs < 0
  | _, [], [], _, h => by simp [cmpZ] at h
  | [], _, [], h, k => by
    rename_i ys
    cases ys with
    | nil => simp [cmpZ] at h
    | cons => simp [cmpZ] at k
  | [], _, _ :: _, _, _ => by simp [cmpZ]
  | _ :: _, [], _, h, _ => by simp [cmpZ] at h
  | _ :: _, _ :: _, [], _, h => by simp [cmpZ] at h
  | a :: ar, b :: bs, c :: cs, h, k => by
    unfold cmpZ at h k ⊢
    rcases (by omega : a < b ∨ b < a ∨ a = b) with e | e | e
    · rcases (by omega : b < c ∨ c < b ∨ b = c) with f | f | f
      · simp [show a < c by omega]
      · simp [f, show ¬ b < c by omega] at k
      · simp [show a < c by omega]
    · simp [e, show ¬ a < b by omega] at h
    · subst e
      simp at h
      split
      · omega
      · split at k
        · omega
        · split at k
          · omega
          · simp [show ¬ c < a by assumption]
            exact cmpZ_trans ar bs cs h k
/-- comes before -/
def ltD (x y : List Int) : Bool := decide (cmpZ x y < 0)
theorem ltD_irrefl (x : List Int) : ltD x x = false := by simp [ltD, cmpZ_self]
theorem ltD_trans {x y z : List Int} (h : ltD x y = true) (k : ltD y z = true) : ltD x z = true := by
  simp only [ltD, decide_eq_true_eq] at h k ⊢; exact cmpZ_trans x y z h k
theorem ltD_asymm {x y : List Int} (h : ltD x y = true) : ltD y x = false := by
  simp only [ltD, decide_eq_true_eq, decide_eq_false_iff_not] at h ⊢
  have := cmpZ_swap x y; omega
theorem ltD_tri {x y : List Int} (h : ltD x y = false) (hne : x ≠ y) : ltD y x = true := by
  simp only [ltD, decide_eq_true_eq, decide_eq_false_iff_not] at h ⊢
  have := cmpZ_swap x y
  have h0 : cmpZ x y ≠ 0 := fun e => hne ((cmpZ_eq x y).1 e)
  omega
theorem u8_lt {a b : Int} (ha : 0 ≤ a ∧ a ≤ 255) (hb : 0 ≤ b ∧ b ≤ 255) : (a.toNat.toUInt8 < b.toNat.toUInt8) ↔ a < b := by
  rw [UInt8.lt_iff_toNat_lt]
  simp [Nat.toUInt8]
  omega
theorem cmp_bytes : ∀ xs ys : List Int, (∀ z ∈ xs, 0 ≤ z ∧ z ≤ 255) → (∀ z ∈ ys, 0 ≤ z ∧ z ≤ 255) → Lib.compareBytes (Lib.bytesOf xs) (Lib.bytesOf ys) = cmpZ xs ys
  | [], [], _, _ => rfl
  | [], _ :: _, _, _ => rfl
  | _ :: _, [], _, _ => rfl
  | a :: ar, b :: bs, hx, hy => by
    have ih := cmp_bytes ar bs (fun z h => hx z (List.mem_cons_of_mem _ h)) (fun z h => hy z (List.mem_cons_of_mem _ h))
    have ha := hx a List.mem_cons_self
    have hb := hy b List.mem_cons_self
    have e : Lib.compareBytes (Lib.bytesOf (a :: ar)) (Lib.bytesOf (b :: bs)) = if a.toNat.toUInt8 < b.toNat.toUInt8 then -1 else if b.toNat.toUInt8 < a.toNat.toUInt8 then 1 else Lib.compareBytes (Lib.bytesOf ar) (Lib.bytesOf bs) := rfl
    rw [e, ih]
    show _ = if a < b then -1 else if b < a then 1 else cmpZ ar bs
    simp only [u8_lt ha hb, u8_lt hb ha]
theorem run_bytesOfS {w : World} {P : Program} (b off c : Nat) (xs : List Int) (hb : BytesAt w b off xs) : (Extern.Bytes.bytesOf (.slice (some ⟨b, off, none⟩) xs.length c)).run P w = .ok ⟨(Lib.bytesOf xs).toArray⟩ w := by
  have hl := Lib.run_loadBytesX (P := P) w xs ⟨b, off, none⟩ .empty (fun j x hj => by
    have hjl : j < xs.length := (List.getElem?_eq_some_iff.1 hj).1
    have e : (⟨b, off, none⟩ : Addr).add j = ⟨b, off + j, none⟩ := by unfold Addr.add; split <;> simp_all
    rw [e, hb j hjl, List.getD_eq_getElem?_getD, hj]
    rfl)
  have he : (⟨ByteArray.empty.data ++ (Lib.bytesOf xs).toArray⟩ : ByteArray) = ⟨(Lib.bytesOf xs).toArray⟩ := by
    apply ByteArray.ext
    show (#[] : Array UInt8) ++ (Lib.bytesOf xs).toArray = (Lib.bytesOf xs).toArray
    simp
  rw [he] at hl
  exact hl
theorem run_compareS {w : World} {P : Program} (a oa ca b ob cb : Nat) (xs ys : List Int) (ha : BytesAt w a oa xs) (hb : BytesAt w b ob ys) (rx : ∀ z ∈ xs, 0 ≤ z ∧ z ≤ 255) (ry : ∀ z ∈ ys, 0 ≤ z ∧ z ≤ 255) :
    (Extern.BytealgCompare.compare #[.slice (some ⟨a, oa, none⟩) xs.length ca, .slice (some ⟨b, ob, none⟩) ys.length cb]).run P w = .ok (.int .i64 (cmpZ xs ys)) w := by
  change Sem.run P (do pure (goInt (Extern.BytealgCompare.cmp (← Extern.Bytes.bytesOf (.slice (some ⟨a, oa, none⟩) xs.length ca)) (← Extern.Bytes.bytesOf (.slice (some ⟨b, ob, none⟩) ys.length cb))))) w = _
  simp only [Sem.run_bind, Sem.run_pure, run_bytesOfS a oa ca xs ha, run_bytesOfS b ob cb ys hb, Result.andThen]
  rw [Lib.cmp_eq]
  simp only [cmp_bytes xs ys rx ry]
  rfl
set_option maxRecDepth 100000 in
set_option maxHeartbeats 1000000 in
theorem bcmp_is (a oa b ob : Nat) (xs ys : List Int) (w : World) (lx : Hid (xs.length = 32)) (ly : Hid (ys.length = 32)) (ha : Hid (BytesAt w a oa xs)) (hb : Hid (BytesAt w b ob ys)) (rx : Hid (∀ z ∈ xs, 0 ≤ z ∧ z ≤ 255)) (ry : Hid (∀ z ∈ ys, 0 ≤ z ∧ z ≤ 255)) :
    Calls Tryz.prog 39 #[.slice (some ⟨a, oa, none⟩) 32 32, .slice (some ⟨b, ob, none⟩) 32 32] w fun e w' => e = .returned (.int .i64 (cmpZ xs ys)) ∧ w' = w := by
  go_enter Tryz.func39, Tryz.ntmps39
  go_wp2
  have hr := run_compareS (P := Tryz.prog) a oa 32 b ob 32 xs ys ha.out hb.out rx.out ry.out
  rw [lx.out, ly.out] at hr
  rw [run_callFunc_extern Tryz.func77 (by kernel_rfl) (by kernel_rfl) (by kernel_rfl) (e := Extern.BytealgCompare.compare) (by kernel_rfl), hr]
  simp only [Result.andThen]
  rw [Oper.upon_value]
  go_wp2
  go_ret
  exact ⟨rfl, rfl⟩
end Go.Proofs.YtjdkdhpippapmaaGreatDoor
namespace Go.Proofs.YtjdkdhpippapmaaGreatDoor
open Go.RowKit
set_option linter.unusedVariables false
set_option linter.unusedSimpArgs false

def Dgs (l : List (List Int)) : Prop := ∀ d ∈ l, d.length = 32 ∧ ∀ z ∈ d, 0 ≤ z ∧ z ≤ 255
theorem Dgs.nil : Dgs [] := fun d h => by cases h
theorem Dgs.tail {d : List Int} {l : List (List Int)} (h : Dgs (d :: l)) : Dgs l := fun x hx => h x (List.mem_cons_of_mem _ hx)
theorem Dgs.cons {d : List Int} {l : List (List Int)} (h1 : d.length = 32) (h2 : ∀ z ∈ d, 0 ≤ z ∧ z ≤ 255) (h : Dgs l) : Dgs (d :: l) := fun x hx => by
  rcases List.mem_cons.1 hx with rfl | hx
  · exact ⟨h1, h2⟩
  · exact h x hx
theorem Dgs.app {l r : List (List Int)} (h : Dgs l) (k : Dgs r) : Dgs (l ++ r) := fun x hx => (List.mem_append.1 hx).elim (h x) (k x)
theorem Dgs.take {l : List (List Int)} (h : Dgs l) (k : Nat) : Dgs (l.take k) := fun x hx => h x (List.mem_of_mem_take hx)
theorem Dgs.drop {l : List (List Int)} (h : Dgs l) (k : Nat) : Dgs (l.drop k) := fun x hx => h x (List.mem_of_mem_drop hx)
theorem Dgs.get {l : List (List Int)} (h : Dgs l) {k : Nat} (hk : k < l.length) : (l.getD k []).length = 32 ∧ ∀ z ∈ l.getD k [], 0 ≤ z ∧ z ≤ 255 := by
  rw [List.getD_eq_getElem?_getD, List.getElem?_eq_getElem hk]; exact h _ (List.getElem_mem hk)
theorem flat_len : ∀ {l : List (List Int)}, Dgs l → l.flatten.length = 32 * l.length
  | [], _ => rfl
  | d :: l, h => by rw [List.flatten_cons, List.length_append, flat_len h.tail, (h d List.mem_cons_self).1, List.length_cons]; omega
theorem flat_get : ∀ {l : List (List Int)} (h : Dgs l) (k : Nat) (hk : k < l.length) (j : Nat) (hj : j < 32), l.flatten.getD (k * 32 + j) 0 = (l.getD k []).getD j 0
  | [], _, k, hk, _, _ => by simp at hk
  | d :: l, h, 0, _, j, hj => by
    have hd := (h d List.mem_cons_self).1
    rw [List.flatten_cons, List.getD_eq_getElem?_getD, List.getElem?_append_left (by omega)]
    simp [List.getD]
  | d :: l, h, k + 1, hk, j, hj => by
    have hd := (h d List.mem_cons_self).1
    have ih := flat_get h.tail k (by simpa using hk) j hj
    rw [List.flatten_cons, List.getD_eq_getElem?_getD, List.getElem?_append_right (by omega), hd, show (k + 1) * 32 + j - 32 = k * 32 + j by omega, ← List.getD_eq_getElem?_getD, ih]
    simp [List.getD]
theorem flat_at {w : World} {b off : Nat} {l : List (List Int)} (hl : Dgs l) (h : BytesAt w b off l.flatten) {k : Nat} (hk : k < l.length) : BytesAt w b (off + k * 32) (l.getD k []) := fun j hj => by
  have h32 := (hl.get hk).1
  have := h (k * 32 + j) (by rw [flat_len hl]; omega)
  rw [Nat.add_assoc, this, flat_get hl k hk j (by omega)]
theorem BytesAt.take' {w : World} {b off : Nat} {l : List (List Int)} (hl : Dgs l) (h : BytesAt w b off l.flatten) (k : Nat) : BytesAt w b off (l.take k).flatten := fun j hj => by
  have e : l.flatten = (l.take k).flatten ++ (l.drop k).flatten := by rw [← List.flatten_append, List.take_append_drop]
  have := h j (by rw [e, List.length_append]; omega)
  rw [this, e, List.getD_eq_getElem?_getD, List.getElem?_append_left hj, ← List.getD_eq_getElem?_getD]
theorem BytesAt.drop' {w : World} {b off : Nat} {l : List (List Int)} (hl : Dgs l) (h : BytesAt w b off l.flatten) {k : Nat} (hk : k ≤ l.length) : BytesAt w b (off + k * 32) (l.drop k).flatten := fun j hj => by
  have e : l.flatten = (l.take k).flatten ++ (l.drop k).flatten := by rw [← List.flatten_append, List.take_append_drop]
  have h32 : (l.take k).flatten.length = k * 32 := by rw [flat_len (hl.take k), List.length_take]; omega
  have := h (k * 32 + j) (by rw [e, List.length_append]; omega)
  rw [Nat.add_assoc, this, e, List.getD_eq_getElem?_getD, List.getElem?_append_right (by omega), h32, Nat.add_sub_cancel_left, ← List.getD_eq_getElem?_getD]
/-- a slice of digests, read -/
def SrcL (w : World) (p : Option Addr) (n c : Nat) (l : List (List Int)) : Prop :=
  n = l.length ∧ n ≤ c ∧ c ≤ maxLen ∧ ((n = 0 ∧ (p = none → c = 0)) ∨ ∃ b off, p = some ⟨b, off, none⟩ ∧ b < w.heap.size ∧ BytesAt w b off l.flatten)
theorem SrcL.below {w w' : World} {p : Option Addr} {n c : Nat} {l : List (List Int)} (h : SrcL w p n c l) (k : Below w.heap.size w w') : SrcL w' p n c l := by
  obtain ⟨h1, h2, h3, h4 | ⟨b, off, rfl, hb, hc⟩⟩ := h
  · exact ⟨h1, h2, h3, .inl h4⟩
  · exact ⟨h1, h2, h3, .inr ⟨b, off, rfl, Nat.lt_of_lt_of_le hb k.size, hc.below k hb⟩⟩
theorem SrcL.pos {w : World} {p : Option Addr} {n c : Nat} {l : List (List Int)} (h : SrcL w p n c l) (hn : 0 < n) : ∃ b off, p = some ⟨b, off, none⟩ ∧ b < w.heap.size ∧ BytesAt w b off l.flatten := by
  obtain ⟨_, _, _, h4 | h4⟩ := h
  · omega
  · exact h4
/-- digests of the walk's own -/
def OwnR (w : World) (B : Nat) (v : Value) (n : Nat) (fs : List Int) : Prop := w.ownsRow B 23 32 v n (bv fs)
theorem ownR_below {w w' : World} {B n : Nat} {v : Value} {zs : List Int} (h : OwnR w B v n zs) (k : Below w.heap.size w w') : OwnR w' B v n zs := by
  refine World.ownsRow.kept (row := none) h ⟨k.os, k.tape, k.output, k.size, fun i hi _ => k.block i hi⟩ ?_
  cases hv : v.ownBlock with
  | none => exact .inl rfl
  | some b => exact .inr (by simp)
theorem ownR_base {w : World} {B B' n : Nat} {v : Value} {zs : List Int} (h : OwnR w B' v n zs) (hB : B ≤ B') : OwnR w B v n zs := by
  obtain ⟨h1, h2⟩ := h
  refine ⟨h1, h2.imp id ?_⟩
  rintro ⟨g, cap, cur, e, hg, r⟩
  exact ⟨g, cap, cur, e, Nat.le_trans hB hg, r⟩
/-- .. as a slice to read -/
theorem ownR_src {w : World} {B : Nat} {v : Value} {l : List (List Int)} (hl : Dgs l) (h : OwnR w B v l.length l.flatten) : ∃ p cap, v = .slice p l.length cap ∧ SrcL w p l.length cap l := by
  obtain ⟨h1, h2⟩ := h
  rw [bv_len] at h1
  rcases h2 with ⟨rfl, h0⟩ | ⟨g, cap, cur, rfl, hBg, hg, hn, hm, hs, ht⟩
  · refine ⟨none, 0, by rw [h0], ⟨rfl, by omega, by decide, .inl ⟨h0, fun _ => rfl⟩⟩⟩
  · refine ⟨_, cap, rfl, ⟨rfl, hn, hm, .inr ⟨g, 0, rfl, (Array.getElem?_eq_some_iff.1 hg).1, ?_⟩⟩⟩
    intro j hj
    have h3 : (cur.toList.take (l.length * 32))[j]? = (bv l.flatten)[j]? := by rw [ht]
    rw [List.getElem?_take, if_pos (by omega)] at h3
    simp only [World.cell?, hg, Nat.zero_add]
    have h4 : cur[j]? = some (.int .u8 (l.flatten.getD j 0)) := by
      rw [← Array.getElem?_toList, h3, bv, List.getElem?_map, List.getElem?_eq_getElem hj, List.getD_eq_getElem?_getD, List.getElem?_eq_getElem hj]; rfl
    rw [h4]; rfl
/-- in order -/
def adjOK (l : List (List Int)) : Prop := ∀ j, j + 1 < l.length → ltD (l.getD j []) (l.getD (j + 1) []) = true
theorem adj_lt {l : List (List Int)} (h : adjOK l) : ∀ (i d : Nat), i + d + 1 < l.length → ltD (l.getD i []) (l.getD (i + d + 1) []) = true
  | i, 0, hd => h i hd
  | i, d + 1, hd => ltD_trans (adj_lt h i d (by omega)) (h (i + d + 1) hd)
theorem adj_lt' {l : List (List Int)} (h : adjOK l) {i j : Nat} (hij : i < j) (hj : j < l.length) : ltD (l.getD i []) (l.getD j []) = true := by
  have := adj_lt h i (j - i - 1) (by omega)
  rwa [show i + (j - i - 1) + 1 = j by omega] at this
/-- the place of a digest -/
def IsPos (l : List (List Int)) (d : List Int) (i : Nat) : Prop := i ≤ l.length ∧ (∀ k, k < i → ltD (l.getD k []) d = true) ∧ ∀ k, i ≤ k → k < l.length → ltD (l.getD k []) d = false
theorem isPos_unique {l : List (List Int)} {d : List Int} {i j : Nat} (h : IsPos l d i) (k : IsPos l d j) : i = j := by
  rcases Nat.lt_trichotomy i j with e | e | e
  · have a := h.2.2 i (Nat.le_refl _) (by have := k.1; omega)
    rw [k.2.1 i e] at a; cases a
  · exact e
  · have a := k.2.2 j (Nat.le_refl _) (by have := h.1; omega)
    rw [h.2.1 j e] at a; cases a
/-- is it there? -/
def hasD (l : List (List Int)) (d : List Int) : Bool := l.contains d
theorem has_pos {l : List (List Int)} {d : List Int} {i : Nat} (ha : adjOK l) (h : IsPos l d i) : hasD l d = true ↔ (i < l.length ∧ l.getD i [] = d) := by
  unfold hasD
  rw [List.contains_iff_mem]
  constructor
  · intro hm
    obtain ⟨k, hk, e⟩ := List.getElem_of_mem hm
    have ek : l.getD k [] = d := by rw [List.getD_eq_getElem?_getD, List.getElem?_eq_getElem hk]; exact e
    have hki : i ≤ k := by
      apply Nat.le_of_not_lt
      intro hlt
      have := h.2.1 k hlt
      rw [ek, ltD_irrefl] at this; cases this
    rcases Nat.lt_or_ge i k with hlt | hge
    · have h1 := adj_lt' ha hlt hk
      have h2 := h.2.2 i (Nat.le_refl _) (by omega)
      rw [ek] at h1
      rw [h1] at h2; cases h2
    · obtain rfl : i = k := by omega
      exact ⟨hk, ek⟩
  · rintro ⟨hi, rfl⟩
    rw [List.getD_eq_getElem?_getD, List.getElem?_eq_getElem hi]
    exact List.getElem_mem hi
theorem isPos_ex {l : List (List Int)} (ha : adjOK l) (d : List Int) : ∃ i, IsPos l d i := by
  have key : ∀ n, n ≤ l.length → (∀ k, k < l.length - n → ltD (l.getD k []) d = true) → ∃ i, IsPos l d i := by
    intro n
    induction n with
    | zero => intro _ h; exact ⟨l.length, Nat.le_refl _, fun k hk => h k (by omega), fun k h1 h2 => by omega⟩
    | succ n ih =>
      intro hn h
      cases hq : ltD (l.getD (l.length - (n + 1)) []) d with
      | false =>
        refine ⟨l.length - (n + 1), by omega, h, fun k h1 h2 => ?_⟩
        rcases Nat.lt_or_ge (l.length - (n + 1)) k with e | e
        · cases hk : ltD (l.getD k []) d with
          | false => rfl
          | true =>
            have := ltD_trans (adj_lt' ha e h2) hk
            rw [hq] at this; cases this
        · rw [show k = l.length - (n + 1) by omega]; exact hq
      | true =>
        refine ih (by omega) fun k hk => ?_
        rcases Nat.lt_or_ge k (l.length - (n + 1)) with e | e
        · exact h k e
        · rw [show k = l.length - (n + 1) by omega]; exact hq
  exact key l.length (Nat.le_refl _) (fun k hk => by omega)
/-- put into its place -/
def putD (l : List (List Int)) (d : List Int) (i : Nat) : List (List Int) := l.take i ++ d :: l.drop i
theorem putD_len (l : List (List Int)) (d : List Int) (i : Nat) (h : i ≤ l.length) : (putD l d i).length = l.length + 1 := by
  unfold putD
  rw [List.length_append, List.length_cons, List.length_take, List.length_drop]; omega
theorem Dgs.put {l : List (List Int)} {d : List Int} (h : Dgs l) (h1 : d.length = 32) (h2 : ∀ z ∈ d, 0 ≤ z ∧ z ≤ 255) (i : Nat) : Dgs (putD l d i) := (h.take i).app (Dgs.cons h1 h2 (h.drop i))
end Go.Proofs.YtjdkdhpippapmaaGreatDoor
namespace Go.Proofs.YtjdkdhpippapmaaGreatDoor
open Go.RowKit
set_option linter.unusedVariables false
set_option linter.unusedSimpArgs false

theorem infoD : (Tryz.prog.info? 23).map (fun i => (i.zero, i.size, i.bytes)) = some (some (.agg (bv (List.replicate 32 0)).toArray), 32, 32) := by kernel_rfl
theorem run_copy_rowN {P : Program} (w : World) (dT sT ty elem : TypeId) (g o dLen dCap : Nat) (a : Addr) (sLen sCap size m : Nat) (cur : Array Value) (t : TypeId) (cs : List Value)
    (hu : P.underlying dT = some (.slice elem)) (hs : (P.info? elem).map (·.size) = some size)
    (hg : w.heap[g]? = some (.cells cur t (0, 0))) (hm : Nat.min sLen dLen = m) (hn : cs.length = m * size)
    (hsrc : ∀ j v, cs[j]? = some v → w.cell? (a.add j) = some v) (hfit : o + cs.length ≤ cur.size) (h1 : ∀ v ∈ cs, v.oneCell' = true) :
    (Builtin.copy_ #[dT, sT] ty #[.slice (some ⟨g, o, none⟩) dLen dCap, .slice (some a) sLen sCap]).run P w =
      .ok (goInt m) (w.setRow g (cur.toList.take o ++ cs ++ cur.toList.drop (o + cs.length)).toArray) := by
  have hl := run_loadCells_list (P := P) w a cs hsrc
  have hst := run_storeCells_at P g o t cs 0 cur w hg (by simpa using hfit) h1
  have hm' : min sLen dLen = m := hm
  cases hq : P.info? elem with
  | none => simp [hq] at hs
  | some i =>
    have hi : i.size = size := by simpa [hq] using hs
    rw [hn] at hl
    simp [Builtin.copy_, run_underlying hu, Builtin.lenOf, Builtin.firstCells, sizeOf, typeInfo, hq, hi, hm', hl, hst]
theorem bel_row {B g : Nat} {w0 w : World} (hb : Below B w0 w) (hBg : B ≤ g) (cs : Array Value) : Below B w0 (w.setRow g cs) :=
  hb.trans ⟨rfl, rfl, rfl, by simp [World.setRow], fun k hk => setRow_other w g k cs (by omega)⟩
theorem take_splice {cur xs news : List Value} {o N : Nat} (ht : cur.take N = xs) (ho : o + news.length ≤ N) (hN : N ≤ cur.length) :
    (cur.take o ++ news ++ cur.drop (o + news.length)).take N = xs.take o ++ news ++ xs.drop (o + news.length) := by
  subst ht
  rw [List.take_take, Nat.min_eq_left (by omega), List.append_assoc, List.take_append, List.take_append]
  have h1 : (cur.take o).length = o := by rw [List.length_take]; omega
  rw [h1, List.take_take, Nat.min_eq_right (by omega), List.take_of_length_le (l := news) (by omega), List.drop_take, List.append_assoc, Nat.sub_sub]
/-- copy of digests into a row of one's own -/
theorem list_copyR {ops : Array Oper} {rest : List Oper} {o : Oper} {a : Act} {w : World} {Q : Exit → Act → World → Prop} (hgd : o.guard = none) (d s : Operand)
    (ho : o.op = .call { callee := .builtin .copy, args := #[d, s], argTypes := #[36, 36] })
    (B g N cap i dl dc : Nat) (fs : List Int) (hown : OwnR w B (.slice (some ⟨g, 0, none⟩) N cap) N fs) (hd : a.eval d = .slice (some ⟨g, i * 32, none⟩) dl dc)
    (b off sl sc m : Nat) (zs : List Int) (hs : a.eval s = .slice (some ⟨b, off, none⟩) sl sc) (hm : Nat.min sl dl = m) (hl : zs.length = m * 32) (hz : BytesAt w b off zs) (hfit : i + m ≤ N) (w0 : World) (hB : Below B w0 w)
    (h : ∀ w', OwnR w' B (.slice (some ⟨g, 0, none⟩) N cap) N (fs.take (i * 32) ++ zs ++ fs.drop (i * 32 + zs.length)) → Below B w0 w' → (∀ k, k ≠ g → w'.heap[k]? = w.heap[k]?) → wpList Tryz.prog ops Q rest (a.put o.dst (goInt m)) w') : wpList Tryz.prog ops Q (o :: rest) a w := by
  have hown2 := hown
  obtain ⟨h1, h2⟩ := hown2
  rcases h2 with ⟨e, h0⟩ | ⟨g0, cap0, cur, e, hbg, hg, hn, hcm, hsz, htk⟩
  · cases e
  · obtain ⟨rfl, rfl⟩ : g0 = g ∧ cap0 = cap := by injection e with e1 e2 e3; injection e1 with e1; injection e1 with e1; exact ⟨e1.symm, e3.symm⟩
    have hNc : N * 32 ≤ cap0 * 32 := Nat.mul_le_mul_right _ hn
    have hf : i * 32 + (bv zs).length ≤ N * 32 := by rw [bv_len, hl, ← Nat.add_mul]; exact Nat.mul_le_mul_right _ hfit
    have hrun := run_copy_rowN (P := Tryz.prog) w 36 36 o.type 23 g0 (i * 32) dl dc ⟨b, off, none⟩ sl sc 32 m cur 23 (bv zs) Tryz.underlying36 (by kernel_rfl) hg hm (by rw [bv_len]; exact hl)
      (fun j u hj => by
        have hj' : j < zs.length := by have := (List.getElem?_eq_some_iff.1 hj).1; rwa [bv_len] at this
        rw [Addr.add_mid, hz j hj']
        have h2 := bv_get zs j hj'
        rw [List.getElem?_toArray, hj] at h2
        exact h2.symm) (by omega) (bv_one zs)
    refine wpList_plain hgd fun K hK => ?_
    unfold Oper.wp
    simp only [execOp, ho, resolve, invoke, builtin, Sem.run_bind, Sem.run_pure, Result.andThen_ok, List.map_toArray, List.map_cons, List.map_nil, hd, hs, hrun]
    refine hK _ _ (h _ ⟨?_, .inr ⟨g0, cap0, _, rfl, hbg, setRow_heap w g0 cur _ _ _ hg, hn, hcm, ?_, ?_⟩⟩ (bel_row hB hbg _) (fun k hk => setRow_other w g0 k _ hk))
    · rw [bv_len] at h1 hf ⊢
      simp only [List.length_append, List.length_take, List.length_drop]
      omega
    · simp only [List.size_toArray, List.length_append, List.length_take, List.length_drop, Array.length_toList]
      omega
    · have ht := take_splice (cur := cur.toList) (news := bv zs) (o := i * 32) htk hf (by rw [Array.length_toList]; omega)
      show _ = bv _
      rw [ht, bv_len]
      simp only [bv, List.map_append, List.map_take, List.map_drop]
/-- zeros behind a row that is full -/
theorem list_appZ {ops : Array Oper} {rest : List Oper} {o : Oper} {a : Act} {w : World} {Q : Exit → Act → World → Prop} (hgd : o.guard = none) (s x : Operand)
    (ho : o.op = .call { callee := .builtin .append, args := #[s, x], argTypes := #[36, 3] }) (b off i cap k N : Nat) (kz : Int) (zs : List Int) (hs : a.eval s = .slice (some ⟨b, off, none⟩) i cap) (hx0 : a.eval x = .int .i64 kz) (hkz : kz = (k : Int)) (hN : i + k = N) (hk : 0 < k) (hfull : cap < i + k) (hb : i + k ≤ 1000000)
    (hl : zs.length = i * 32) (hz : BytesAt w b off zs)
    (h : ∀ g c w', OwnR w' w.heap.size (.slice (some ⟨g, 0, none⟩) N c) N (zs ++ List.replicate (k * 32) 0) → w.heap.size ≤ g → N ≤ c → c ≤ maxLen → Below w.heap.size w w' → wpList Tryz.prog ops Q rest (a.put o.dst (.slice (some ⟨g, 0, none⟩) N c)) w') : wpList Tryz.prog ops Q (o :: rest) a w := by
  subst hN
  have hx : a.eval x = .int .i64 (k : Int) := by rw [hx0, hkz]
  obtain ⟨i0, hi, hz0, hz1, hz2⟩ := info_parts infoD
  have hcs : (Value.agg (bv (List.replicate 32 0)).toArray).cells.size = 32 := by simp [Value.cells, bv]
  have hcell : ∀ j u, (bv zs)[j]? = some u → w.cell? ((⟨b, off, none⟩ : Addr).add j) = some u := by
    intro j u hj
    have hj' : j < zs.length := by
      have := (List.getElem?_eq_some_iff.1 hj).1
      rwa [bv_len] at this
    rw [Addr.add_mid, hz j hj']
    have h2 := bv_get zs j hj'
    rw [List.getElem?_toArray, hj] at h2
    exact h2.symm
  have hlo : (bv zs).length = i * i0.size := by rw [bv_len, hz1]; exact hl
  have hr := Go.Lib.run_append_grow_zeros (P := Tryz.prog) w 36 3 o.type 23 i0 _ .i64 .i64 Tryz.underlying36 Tryz.underlying3 hi hz0 (some ⟨b, off, none⟩) i cap (bv zs) (run_firstCells_some (P := Tryz.prog) w.drew i0.size i ⟨b, off, none⟩ i cap (bv zs) hlo hcell) k hk (by rw [hz1]; decide) hfull (by omega) (by rw [hz2]; omega) (growslice_fits hfull (by rw [hz2]; omega))
  have hge := grownCap_ge w (i + k) cap 23
  have hcm := grownCap_le_maxLen w (i + k) cap 23 (by unfold maxLen; omega)
  have hzr : ∀ m, (Builtin.zeroCells (Value.agg (bv (List.replicate 32 0)).toArray).cells m).toList = bv (List.replicate (m * 32) 0) := by
    intro m
    apply List.ext_getElem?
    intro j
    have hsz : (Builtin.zeroCells (Value.agg (bv (List.replicate 32 0)).toArray).cells m).toList.length = m * 32 := by rw [Array.length_toList, size_zeroCells, hcs]
    by_cases hj : j < m * 32
    · rw [List.getElem?_eq_getElem (by omega), List.getElem?_eq_getElem (by rw [bv_len]; simpa using hj)]
      refine congrArg some ?_
      have h32 : ∀ r, r < 32 → ((bv (List.replicate 32 0)).toArray)[r]! = Value.int .u8 0 := by
        intro r hr
        have hr2 : r < ((bv (List.replicate 32 0)).toArray).size := by simpa [bv] using hr
        rw [getElem!_pos _ r hr2]
        simp only [bv, List.getElem_toArray, List.getElem_map, List.getElem_replicate]
      have e1 : (Builtin.zeroCells (Value.agg (bv (List.replicate 32 0)).toArray).cells m).toList[j]'(by omega) = ((bv (List.replicate 32 0)).toArray)[j % ((bv (List.replicate 32 0)).toArray).size]! := by
        simp [Builtin.zeroCells, Value.cells]
      rw [e1, show ((bv (List.replicate 32 0)).toArray).size = 32 from hcs, h32 _ (Nat.mod_lt _ (by decide))]
      simp [bv]
    · rw [List.getElem?_eq_none (by omega), List.getElem?_eq_none (by rw [bv_len]; simpa using hj)]
  obtain ⟨gc, hgc⟩ : ∃ gc, grownCap w (i + k) cap 23 = gc := ⟨_, rfl⟩
  rw [hgc] at hr hge hcm
  refine wpList_plain hgd fun K hK => ?_
  unfold Oper.wp
  simp only [execOp, ho, resolve, invoke, builtin, Sem.run_bind, Sem.run_pure, Result.andThen_ok, List.map_toArray, List.map_cons, List.map_nil, hs, hx, hr]
  refine hK _ _ (h w.heap.size _ _ ⟨?_, .inr ⟨w.heap.size, _, _, rfl, Nat.le_refl _, heap_alloc_new w.drew _, hge, hcm, ?_, ?_⟩⟩ (Nat.le_refl _) hge hcm ?_)
  · rw [bv_len, List.length_append, List.length_replicate, hl, Nat.add_mul]
  · rw [Array.size_append, Array.size_append, List.size_toArray, size_zeroCells, size_zeroCells, hcs, bv_len, hl]
    omega
  · simp only [Array.toList_append, List.append_assoc, hzr]
    rw [← List.append_assoc]
    have e : bv zs ++ bv (List.replicate (k * 32) 0) = bv (zs ++ List.replicate (k * 32) 0) := by simp [bv]
    rw [e]
    have e2 : (i + k) * 32 = (bv (zs ++ List.replicate (k * 32) 0)).length := by rw [bv_len, List.length_append, List.length_replicate, hl, Nat.add_mul]
    rw [e2]
    exact List.take_left
  · exact (Below.refl _ w).drew.alloc (Nat.le_refl _) _
end Go.Proofs.YtjdkdhpippapmaaGreatDoor
namespace Go.Proofs.YtjdkdhpippapmaaGreatDoor
open Go.RowKit
set_option linter.unusedVariables false
set_option linter.unusedSimpArgs false

theorem clipD_any (p : Option Addr) (n c : Nat) (w : World) (h1 : n ≤ c) (h2 : c ≤ 9223372036854775807) (h3 : p = none → n = 0 ∧ c = 0) :
    Calls Tryz.prog 43 #[.slice p n c] w fun e w' => e = .returned (.slice p n n) ∧ w' = w := by
  cases p with
  | none =>
    obtain ⟨rfl, rfl⟩ := h3 rfl
    clear h1 h2 h3
    go_enter Tryz.func43, Tryz.ntmps43
    go_wp2_with fail
    go_ret
    exact ⟨rfl, rfl⟩
  | some a =>
    clear h3
    go_enter Tryz.func43, Tryz.ntmps43
    go_wp2_with fail
    go_ret
    exact ⟨rfl, rfl⟩
theorem cells_of {w : World} {b off : Nat} {zs : List Int} (h : BytesAt w b off zs) : ∀ j u, (bv zs)[j]? = some u → w.cell? ((⟨b, off, none⟩ : Addr).add j) = some u := by
  intro j u hj
  have hj' : j < zs.length := by
    have := (List.getElem?_eq_some_iff.1 hj).1
    rwa [bv_len] at this
  rw [Addr.add_mid, h j hj']
  have h2 := bv_get zs j hj'
  rw [List.getElem?_toArray, hj] at h2
  exact h2.symm
/-- append of one digest to a slice that is full -/
theorem list_app1 {ops : Array Oper} {rest : List Oper} {o : Oper} {a : Act} {w : World} {Q : Exit → Act → World → Prop} (hgd : o.guard = none) (s x : Operand)
    (ho : o.op = .call { callee := .builtin .append, args := #[s, x], argTypes := #[36, 36] }) (p : Option Addr) (n : Nat) (fs : List Int) (hs : a.eval s = .slice p n n) (hn : p = none → n = 0) (hfl : fs.length = n * 32) (hp : ∀ q, p = some q → n = 0 ∨ ∃ b off, q = ⟨b, off, none⟩ ∧ BytesAt w b off fs)
    (db : Nat) (d : List Int) (hx : a.eval x = .slice (some ⟨db, 0, none⟩) 1 1) (hd : Dg w db d) (hb : n ≤ 1000000)
    (h : ∀ v' w', OwnR w' w.heap.size v' (n + 1) (fs ++ d) → Below w.heap.size w w' → wpList Tryz.prog ops Q rest (a.put o.dst v') w') : wpList Tryz.prog ops Q (o :: rest) a w := by
  obtain ⟨i0, hi, hz0, hz1, hz2⟩ := info_parts infoD
  refine wpList_append_grows w hgd s x 36 ho 23 i0 _ 32 32 Tryz.underlying36 hi hz0 hz1 hz2 (by simp [Value.cells, bv]) (by decide) p n n (bv fs) hs (fun e => ⟨hn e, hn e⟩) (by rw [bv_len]; exact hfl) ?_
    ⟨db, 0, none⟩ 1 1 (bv d) hx (by rw [bv_len, hd.2]) (cells_of hd.bytes) (bv_one d) (by omega) (by unfold maxLen; omega) (by omega) ?_
  · intro b hb j u hj
    rcases hp b hb with h0 | ⟨b, off, rfl, hc⟩
    · subst h0
      obtain rfl : fs = [] := List.eq_nil_of_length_eq_zero (by omega)
      simp [bv] at hj
    · exact cells_of hc j u hj
  · intro v' w' h1 h2
    exact h v' w' (by unfold OwnR; rw [bv, List.map_append]; exact h1) ⟨h2.os, h2.tape, h2.output, h2.size, fun k hk => h2.block k hk (by simp)⟩
set_option maxRecDepth 100000 in
set_option maxHeartbeats 2000000 in
theorem ins_nil (l : List (List Int)) (d : List Int) (db : Nat) (w : World) (h0 : l = []) (hd : Hid (Dg w db d)) :
    Calls Tryz.prog 42 #[.slice none 0 0, .int .i64 0, .slice (some ⟨db, 0, none⟩) 1 1] w fun e w' => ∃ v', e = .returned v' ∧ OwnR w' w.heap.size v' 1 d ∧ Below w.heap.size w w' := by
  go_enter Tryz.func42, Tryz.ntmps42
  go_wp2_with (at_builtin; refine list_app1 rfl (.tmp 23) (.tmp 24) rfl none 0 [] rfl (fun _ => rfl) rfl (fun q hq => by cases hq) db d rfl hd.out (by omega) ?_; intro v1 w1 o1 b1; have O1 := Lib.hid o1; have B1 := Lib.hid b1; clear o1 b1)
  go_ret
  exact ⟨v1, rfl, O1.out, B1.out⟩
set_option maxRecDepth 100000 in
set_option maxHeartbeats 2000000 in
theorem ins_emp (ad : Addr) (d : List Int) (db : Nat) (w : World) (hd : Hid (Dg w db d)) :
    Calls Tryz.prog 42 #[.slice (some ad) 0 0, .int .i64 0, .slice (some ⟨db, 0, none⟩) 1 1] w fun e w' => ∃ v', e = .returned v' ∧ OwnR w' w.heap.size v' 1 d ∧ Below w.heap.size w w' := by
  go_enter Tryz.func42, Tryz.ntmps42
  go_wp2_with (at_builtin; refine list_app1 rfl (.tmp 23) (.tmp 24) rfl (some ad) 0 [] rfl (fun e => by cases e) rfl (fun q hq => .inl rfl) db d rfl hd.out (by omega) ?_; intro v1 w1 o1 b1; have O1 := Lib.hid o1; have B1 := Lib.hid b1; clear o1 b1)
  go_ret
  exact ⟨v1, rfl, O1.out, B1.out⟩
set_option maxRecDepth 100000 in
set_option maxHeartbeats 2000000 in
theorem ins_end (b off n : Nat) (fs d : List Int) (db : Nat) (w : World) (hn : 0 < n) (hn2 : n ≤ 100000) (hl : Hid (fs.length = n * 32)) (hb : Hid (BytesAt w b off fs)) (hd : Hid (Dg w db d)) :
    Calls Tryz.prog 42 #[.slice (some ⟨b, off, none⟩) n n, .int .i64 (n : Int), .slice (some ⟨db, 0, none⟩) 1 1] w fun e w' => ∃ v', e = .returned v' ∧ OwnR w' w.heap.size v' (n + 1) (fs ++ d) ∧ Below w.heap.size w w' := by
  have h0 : ¬ ((n : Int) < 0) := by omega
  go_enter Tryz.func42, Tryz.ntmps42
  go_wp2_with (at_builtin; refine list_app1 rfl (.tmp 23) (.tmp 24) rfl (some ⟨b, off, none⟩) n fs rfl (fun e => by cases e) hl.out (fun q hq => .inr ⟨b, off, by injection hq with e; exact e.symm, hb.out⟩) db d rfl hd.out (by omega) ?_; intro v1 w1 o1 b1; have O1 := Lib.hid o1; have B1 := Lib.hid b1; clear o1 b1)
  go_ret
  exact ⟨v1, rfl, O1.out, B1.out⟩
set_option maxRecDepth 100000 in
set_option maxHeartbeats 4000000 in
theorem ins_mid (b off n i : Nat) (xs ys d : List Int) (db : Nat) (w : World) (hi : i < n) (hn2 : n ≤ 100000) (hlt : b < w.heap.size) (hx : Hid (xs.length = i * 32)) (hy : Hid (ys.length = (n - i) * 32)) (hb : Hid (BytesAt w b off xs)) (hb2 : Hid (BytesAt w b (off + i * 32) ys)) (hd : Hid (Dg w db d)) :
    Calls Tryz.prog 42 #[.slice (some ⟨b, off, none⟩) n n, .int .i64 (i : Int), .slice (some ⟨db, 0, none⟩) 1 1] w fun e w' => ∃ v', e = .returned v' ∧ OwnR w' w.heap.size v' (n + 1) (xs ++ d ++ ys) ∧ Below w.heap.size w w' := by
  have h0 : ¬ ((i : Int) < 0) := by omega
  have h1 : (i : Int) ≤ n := by omega
  have h2 : ¬ ((i : Int) = n) := by omega
  have h3 : (n : Int) < (n : Int) + 1 := by omega
  go_enter Tryz.func42, Tryz.ntmps42
  go_upto_region 10 with (at_builtin; refine list_appZ rfl (.tmp 34) (.tmp 39) rfl b off i n (n + 1 - i) (n + 1) _ xs rfl rfl (by omega) (by omega) (by omega) (by omega) (by omega) hx.out hb.out ?_)
  intro g c w1 o1 hg hc hm b1
  have hlen : xs.length + (n + 1 - i) * 32 = (n + 1) * 32 := by rw [hx.out]; omega
  have O1 := Lib.hid o1
  have B1 := Lib.hid b1
  have D1 := Lib.hid (hd.out.bel b1)
  have Y1 := Lib.hid (hb2.out.below b1 hlt)
  have z1 := b1.size
  have dlt := hd.out.lt
  clear o1 b1
  have h4 : (n : Int) + 1 ≤ c := by omega
  have h5 : (c : Int) ≤ 9223372036854775807 := by unfold maxLen at hm; omega
  have h6 : (i : Int) ≤ (n : Int) + 1 := by omega
  go_upto_region 10 with fail
  go_upto_region 11 with (refine list_copyR rfl (.tmp 43) (.tmp 44) rfl w.heap.size g (n + 1) c i _ _ (xs ++ List.replicate ((n + 1 - i) * 32) 0) O1.out rfl db 0 1 1 1 d rfl (show min 1 (n + 1 - i) = 1 by omega) (by rw [D1.out.2]) D1.out.bytes (by omega) w B1.out ?_)
  intro w2 o2 b2 k2
  have e2 : (xs ++ List.replicate ((n + 1 - i) * 32) 0).take (i * 32) ++ d ++ (xs ++ List.replicate ((n + 1 - i) * 32) 0).drop (i * 32 + d.length) = xs ++ d ++ List.replicate ((n - i) * 32) 0 := by
    rw [← hx.out, List.take_left, D1.out.2, List.drop_append, List.drop_replicate, List.drop_of_length_le (by omega)]
    rw [show (n + 1 - i) * 32 - (xs.length + 32 - xs.length) = (n - i) * 32 by omega]
    simp
  rw [List.append_assoc] at e2
  rw [e2] at o2
  have O2 := Lib.hid o2
  have B2 := Lib.hid b2
  have Y2 := Lib.hid (show BytesAt w2 b (off + i * 32) ys from fun j hj => (World.cell?_of_block (a := ⟨b, off + i * 32 + j, none⟩) (k2 b (by omega))).trans (Y1.out j hj))
  clear o2 b2 k2 e2 O1 Y1 D1 B1
  go_upto_region 11 with fail
  refine wp_region_any (by kernel_rfl) ?_
  change wpAny _ _ _ _ _ _ _ (World.drew _)
  generalize hWD : World.drew _ = W
  have O3 := Lib.hid (show OwnR W w.heap.size (.slice (some ⟨g, 0, none⟩) (n + 1) c) (n + 1) (xs ++ d ++ List.replicate ((n - i) * 32) 0) by rw [← hWD]; exact ownR_below O2.out ((Below.refl _ w2).drew))
  have B3 := Lib.hid (show Below w.heap.size w W by rw [← hWD]; exact B2.out.drew)
  have Y3 := Lib.hid (show BytesAt W b (off + i * 32) ys by rw [← hWD]; exact Y2.out)
  have lt3 := Lib.hid (show b < W.heap.size from Nat.lt_of_lt_of_le hlt B3.out.size)
  clear hWD O2 B2 Y2
  have h7 : (i : Int) + 1 ≤ (n : Int) + 1 := by omega
  have h8 : ¬ ((i : Int) + 1 < 0) := by omega
  have h9 : (i : Int) + 1 ≤ c := by omega
  have h10 : (0 : Int) ≤ (i : Int) + 1 := by omega
  have h11 : ¬ (c = i + 1) := by omega
  have h12 : ¬ (n = i) := by omega
  have hCD : ∀ u, Ext W u → Ext W u := fun u hu => hu
  refine region_U (D := Ext W) (Ext W) [8] (Ext.refl W) ?_
  refine anyU_takeD (i := 0) (v := .slice (some ⟨g, 0, none⟩) (n + 1 : Nat) c) 46 rfl rfl (by kernel_rfl) (by kernel_rfl) (by kernel_rfl) (fun _ _ _ h => h) (by kernel_rfl) (Ext.stable _) hCD (yieldsU_val rfl (fun u hu => by go_simp)) ?_
  refine anyU_takeD (i := 1) (v := .int .i64 (i : Int)) 47 rfl rfl (by kernel_rfl) (by kernel_rfl) (by kernel_rfl) (fun _ _ _ h => h) (by kernel_rfl) (Ext.stable _) hCD (yieldsU_val rfl (fun u hu => by go_simp)) ?_
  refine anyU_takeD (i := 2) (v := .int .i64 1) 48 rfl rfl (by kernel_rfl) (by kernel_rfl) (by kernel_rfl) (fun _ _ _ h => h) (by kernel_rfl) (Ext.stable _) hCD (yieldsU_val rfl (fun u hu => by go_simp)) ?_
  refine anyU_takeD (i := 3) (v := .int .i64 ((i : Int) + 1)) 49 rfl rfl (by kernel_rfl) (by kernel_rfl) (by kernel_rfl) (fun _ _ _ h => h) (by kernel_rfl) (Ext.stable _) hCD (yieldsU_val rfl (fun u hu => by go_simp; rw [IntKind.wrap_i64]; omega)) ?_
  refine anyU_takeD (i := 4) (v := .slice (some ⟨g, (i + 1) * 32, none⟩) (n - i) (c - (i + 1))) 50 rfl rfl (by kernel_rfl) (by kernel_rfl) (by kernel_rfl) (fun _ _ _ h => h) (by kernel_rfl) (Ext.stable _) hCD (yieldsU_val rfl (fun u hu => by go_simp)) ?_
  simp only [Act.put, List.setIfInBounds_toArray, List.set_cons_succ, List.set_cons_zero]
  refine anyU_takeD (i := 5) (v := .slice (some ⟨b, off, none⟩) n n) 51 rfl rfl (by kernel_rfl) (by kernel_rfl) (by kernel_rfl) (fun _ _ _ h => h) (by kernel_rfl) (Ext.stable _) hCD (yieldsU_val rfl (fun u hu => by go_simp)) ?_
  refine anyU_takeD (i := 6) (v := .int .i64 (i : Int)) 52 rfl rfl (by kernel_rfl) (by kernel_rfl) (by kernel_rfl) (fun _ _ _ h => h) (by kernel_rfl) (Ext.stable _) hCD (yieldsU_val rfl (fun u hu => by go_simp)) ?_
  refine anyU_takeD (i := 7) (v := .slice (some ⟨b, off + i * 32, none⟩) (n - i) (n - i)) 53 rfl rfl (by kernel_rfl) (by kernel_rfl) (by kernel_rfl) (fun _ _ _ h => h) (by kernel_rfl) (Ext.stable _) hCD (yieldsU_val rfl (fun u hu => by go_simp)) ?_
  simp only [Act.put, List.setIfInBounds_toArray, List.set_cons_succ, List.set_cons_zero]
  refine anyU_tail 8 [] rfl rfl (by decide) (by kernel_rfl) ?_
  intro u3 hu3
  simp only [Act.put, List.filterMap_cons, List.filterMap_nil, List.getElem?_cons_succ, List.getElem?_cons_zero]
  have O4 := Lib.hid (ownR_below O3.out hu3)
  have B4 := Lib.hid (bel_trans B3.out hu3)
  have Y4 := Lib.hid (Y3.out.below hu3 lt3.out)
  clear hu3 O3 B3 Y3
  refine (list_copyR rfl (.tmp 50) (.tmp 53) rfl w.heap.size g (n + 1) c (i + 1) _ _ (xs ++ d ++ List.replicate ((n - i) * 32) 0) O4.out rfl b (off + i * 32) (n - i) (n - i) (n - i) ys rfl (show min (n - i) (n - i) = n - i by omega) hy.out Y4.out (by omega) w B4.out ?_)
  intro w5 o5 b5 k5
  have e5 : (xs ++ d ++ List.replicate ((n - i) * 32) 0).take ((i + 1) * 32) ++ ys ++ (xs ++ d ++ List.replicate ((n - i) * 32) 0).drop ((i + 1) * 32 + ys.length) = xs ++ d ++ ys := by
    have hxd : (i + 1) * 32 = (xs ++ d).length := by rw [List.length_append, hx.out, hd.out.2]; omega
    rw [hxd, List.take_left, List.drop_append, List.drop_replicate, List.drop_of_length_le (by omega), hy.out]
    rw [show (n - i) * 32 - ((xs ++ d).length + (n - i) * 32 - (xs ++ d).length) = 0 by omega]
    simp
  simp only [List.append_assoc] at e5 o5
  rw [e5] at o5
  have O5 := Lib.hid o5
  have B5 := Lib.hid b5
  clear o5 b5 k5 e5
  go_wp2_with fail
  go_ret
  refine ⟨.slice (some ⟨g, 0, none⟩) (n + 1 : Nat) c, rfl, ?_, B5.out⟩
  exact O5.out
end Go.Proofs.YtjdkdhpippapmaaGreatDoor
namespace Go.Proofs.YtjdkdhpippapmaaGreatDoor
open Go.RowKit
set_option linter.unusedVariables false
set_option linter.unusedSimpArgs false

set_option maxRecDepth 100000 in
set_option maxHeartbeats 2000000 in
theorem cmp2_is (xs ys : List Int) (w : World) (lx : Hid (xs.length = 32)) (ly : Hid (ys.length = 32)) (rx : Hid (∀ z ∈ xs, 0 ≤ z ∧ z ≤ 255)) (ry : Hid (∀ z ∈ ys, 0 ≤ z ∧ z ≤ 255)) :
    Calls Tryz.prog 41 #[.agg (bv xs).toArray, .agg (bv ys).toArray] w fun e w' => e = .returned (.int .i64 (cmpZ xs ys)) ∧ Below w.heap.size w w' := by
  go_enter Tryz.func41, Tryz.ntmps41
  go_upto_region 1 with fail
  refine wp_region_any (by kernel_rfl) ?_
  change wpAny _ _ _ _ _ _ _ (World.drew _)
  generalize hWD : World.drew _ = W
  have X1 := Lib.hid (show Dg W w.heap.size xs by rw [← hWD]; exact ((Dg.box w lx.out).alloc _).drew)
  have Y1 := Lib.hid (show Dg W (w.heap.size + 1) ys by rw [← hWD]; have := Dg.box (w.alloc (.cells (bv xs).toArray 23)) ly.out; exact Dg.drew (by simpa using this))
  have B1 := Lib.hid (show Below w.heap.size w W by rw [← hWD]; exact ((bel_alloc1 w _).alloc (by simp) _).drew)
  clear hWD
  have hCD : ∀ u, Ext W u → Ext W u := fun u hu => hu
  refine region_U (D := Ext W) (Ext W) [3] (Ext.refl W) ?_
  refine anyU_takeD (i := 0) (v := .slice (some ⟨w.heap.size, 0, none⟩) 32 32) 5 rfl rfl (by kernel_rfl) (by kernel_rfl) (by kernel_rfl) (fun _ _ _ h => h) (by kernel_rfl) (Ext.stable _) hCD (yieldsU_val rfl (fun u hu => by go_simp)) ?_
  refine anyU_takeD (i := 1) (v := .slice (some ⟨w.heap.size + 1, 0, none⟩) 32 32) 6 rfl rfl (by kernel_rfl) (by kernel_rfl) (by kernel_rfl) (fun _ _ _ h => h) (by kernel_rfl) (Ext.stable _) hCD (yieldsU_val rfl (fun u hu => by go_simp)) ?_
  refine anyU_takeD (i := 2) (v := .int .i64 (cmpZ xs ys)) 7 rfl rfl (by kernel_rfl) (by kernel_rfl) (by kernel_rfl) (fun _ _ _ h => h) (by kernel_rfl) (Ext.stable _) hCD (yieldsU_call rfl 39 _ _ rfl #[.slice (some ⟨w.heap.size, 0, none⟩) 32 32, .slice (some ⟨w.heap.size + 1, 0, none⟩) 32 32] (by simp [Act.eval, Act.put]) (fun u => by go_simp) (fun u hu => (bcmp_is _ 0 _ 0 xs ys u lx ly (Lib.hid (X1.out.bel hu).bytes) (Lib.hid (Y1.out.bel hu).bytes) rx ry).mono fun q w' hq => by obtain ⟨h1, h2⟩ := hq; subst h2; exact ⟨h1, Below.refl _ _⟩)) ?_
  refine anyU_tail 3 [] rfl rfl (by decide) (by kernel_rfl) ?_
  intro u5 hu5
  simp only [Act.put, List.filterMap_cons, List.filterMap_nil, List.getElem?_cons_succ, List.getElem?_cons_zero]
  go_wp2_with fail
  go_ret
  exact ⟨rfl, bel_trans B1.out hu5⟩
set_option maxRecDepth 100000 in
set_option maxHeartbeats 2000000 in
theorem inc_is (l : List (List Int)) (j n c b off ub : Nat) (w : World) (hd : Hid (Dgs l)) (hz : Hid (SrcL w (some ⟨b, off, none⟩) n c l)) (hlt : b < w.heap.size) (hb : Hid (BytesAt w b off l.flatten)) (hj : j + 1 < n) (hj1 : j < l.length) (hj2 : j + 1 < l.length) (hq : Hid (Blk w ub #[.slice (some ⟨b, off, none⟩) n c] 36)) :
    Calls Tryz.prog 38 #[.int .i64 ((j : Int) + 1), .pointer (some ⟨ub, 0, none⟩)] w fun e w' => e = .returned (.bool (ltD (l.getD j []) (l.getD (j + 1) []))) ∧ Below w.heap.size w w' := by
  have h1 : (j : Int) < (n : Int) := by omega
  have h2 : (j : Int) + 1 < (n : Int) := by omega
  have h4 : ¬ ((j : Int) + 1 < 0) := by omega
  have h3 : (j : Int) + 1 ≤ 9223372036854775807 := by have := hz.out.2.1; have := hz.out.2.2.1; unfold maxLen at this; omega
  go_enter Tryz.func38, Tryz.ntmps38
  go_upto_region 1 with fail
  refine wp_region_any (by kernel_rfl) ?_
  change wpAny _ _ _ _ _ _ _ (World.drew _)
  generalize hWD : World.drew _ = W
  have Q0 := Lib.hid (show Blk W ub #[.slice (some ⟨b, off, none⟩) n c] 36 by rw [← hWD]; exact hq.out)
  have Z0 := Lib.hid (show BytesAt W b off l.flatten by rw [← hWD]; exact hb.out)
  have B1 := Lib.hid (show Below w.heap.size w W by rw [← hWD]; exact (Below.refl _ w).drew)
  have lt0 := Lib.hid (show b < W.heap.size by rw [← hWD]; exact hlt)
  clear hWD
  have hCD : ∀ u, Ext W u → Ext W u := fun u hu => hu
  refine region_U (D := Ext W) (Ext W) [10, 11] (Ext.refl W) ?_
  refine anyU_takeD (i := 0) (v := .slice (some ⟨b, off, none⟩) n c) 4 rfl rfl (by kernel_rfl) (by kernel_rfl) (by kernel_rfl) (fun _ _ _ h => h) (by kernel_rfl) (Ext.stable _) hCD (yieldsU_val rfl (fun u hu => by have hc := (Q0.out.below hu Q0.out.lt).cell 0; go_simp)) ?_
  refine anyU_takeD (i := 1) (v := .int .i64 ((j : Int) + 1)) 5 rfl rfl (by kernel_rfl) (by kernel_rfl) (by kernel_rfl) (fun _ _ _ h => h) (by kernel_rfl) (Ext.stable _) hCD (yieldsU_val rfl (fun u hu => by go_simp)) ?_
  refine anyU_takeD (i := 2) (v := .int .i64 (j : Int)) 6 rfl rfl (by kernel_rfl) (by kernel_rfl) (by kernel_rfl) (fun _ _ _ h => h) (by kernel_rfl) (Ext.stable _) hCD (yieldsU_val rfl (fun u hu => by go_simp; rw [IntKind.wrap_i64]; omega)) ?_
  refine anyU_takeD (i := 3) (v := .pointer (some ⟨b, off + j * 32, none⟩)) 7 rfl rfl (by kernel_rfl) (by kernel_rfl) (by kernel_rfl) (fun _ _ _ h => h) (by kernel_rfl) (Ext.stable _) hCD (yieldsU_val rfl (fun u hu => by go_simp)) ?_
  refine anyU_takeD (i := 4) (v := .slice (some ⟨b, off + j * 32, none⟩) 32 32) 8 rfl rfl (by kernel_rfl) (by kernel_rfl) (by kernel_rfl) (fun _ _ _ h => h) (by kernel_rfl) (Ext.stable _) hCD (yieldsU_val rfl (fun u hu => by go_simp)) ?_
  simp only [Act.put, List.setIfInBounds_toArray, List.set_cons_succ, List.set_cons_zero]
  refine anyU_takeD (i := 5) (v := .slice (some ⟨b, off, none⟩) n c) 9 rfl rfl (by kernel_rfl) (by kernel_rfl) (by kernel_rfl) (fun _ _ _ h => h) (by kernel_rfl) (Ext.stable _) hCD (yieldsU_val rfl (fun u hu => by have hc := (Q0.out.below hu Q0.out.lt).cell 0; go_simp)) ?_
  refine anyU_takeD (i := 6) (v := .int .i64 ((j : Int) + 1)) 10 rfl rfl (by kernel_rfl) (by kernel_rfl) (by kernel_rfl) (fun _ _ _ h => h) (by kernel_rfl) (Ext.stable _) hCD (yieldsU_val rfl (fun u hu => by go_simp)) ?_
  refine anyU_takeD (i := 7) (v := .pointer (some ⟨b, off + (j + 1) * 32, none⟩)) 11 rfl rfl (by kernel_rfl) (by kernel_rfl) (by kernel_rfl) (fun _ _ _ h => h) (by kernel_rfl) (Ext.stable _) hCD (yieldsU_val rfl (fun u hu => by go_simp)) ?_
  refine anyU_takeD (i := 8) (v := .slice (some ⟨b, off + (j + 1) * 32, none⟩) 32 32) 12 rfl rfl (by kernel_rfl) (by kernel_rfl) (by kernel_rfl) (fun _ _ _ h => h) (by kernel_rfl) (Ext.stable _) hCD (yieldsU_val rfl (fun u hu => by go_simp)) ?_
  simp only [Act.put, List.setIfInBounds_toArray, List.set_cons_succ, List.set_cons_zero]
  refine anyU_takeD (i := 9) (v := .int .i64 (cmpZ (l.getD j []) (l.getD (j + 1) []))) 13 rfl rfl (by kernel_rfl) (by kernel_rfl) (by kernel_rfl) (fun _ _ _ h => h) (by kernel_rfl) (Ext.stable _) hCD (yieldsU_call rfl 39 _ _ rfl #[.slice (some ⟨b, off + j * 32, none⟩) 32 32, .slice (some ⟨b, off + (j + 1) * 32, none⟩) 32 32] (by simp [Act.eval, Act.put]) (fun u => by go_simp) (fun u hu => (bcmp_is _ _ _ _ (l.getD j []) (l.getD (j + 1) []) u (Lib.hid (hd.out.get hj1).1) (Lib.hid (hd.out.get hj2).1) (Lib.hid (flat_at hd.out (Z0.out.below hu lt0.out) hj1)) (Lib.hid (flat_at hd.out (Z0.out.below hu lt0.out) hj2)) (Lib.hid (hd.out.get hj1).2) (Lib.hid (hd.out.get hj2).2)).mono fun q w' hq => by obtain ⟨h1, h2⟩ := hq; subst h2; exact ⟨h1, Below.refl _ _⟩)) ?_
  refine anyU_tail 10 [11] rfl rfl (by decide) (by kernel_rfl) ?_
  intro u5 hu5
  simp only [Act.put, List.filterMap_cons, List.filterMap_nil, List.getElem?_cons_succ, List.getElem?_cons_zero]
  go_wp2_with fail
  go_ret
  exact ⟨rfl, bel_trans B1.out hu5⟩
end Go.Proofs.YtjdkdhpippapmaaGreatDoor
namespace Go.Proofs.YtjdkdhpippapmaaGreatDoor
open Go.RowKit
set_option linter.unusedVariables false
set_option linter.unusedSimpArgs false

theorem half_wrap (a b : Nat) (h : a + b ≤ 2000000000) : IntKind.i64.wrap (IntKind.u64.wrap ((a : Int) + b) / 2) = ((a + b) / 2 : Nat) := by
  rw [IntKind.wrap_u64, IntKind.wrap_i64]; omega
set_option maxRecDepth 100000 in
set_option maxHeartbeats 4000000 in
theorem bs_some (l : List (List Int)) (d : List Int) (i n c b off : Nat) (w : World) (hd : Hid (Dgs l)) (hz : Hid (SrcL w (some ⟨b, off, none⟩) n c l)) (hn : n ≤ 1000000) (hlt : b < w.heap.size) (hb : Hid (BytesAt w b off l.flatten)) (ld : Hid (d.length = 32)) (rd : Hid (∀ z ∈ d, 0 ≤ z ∧ z ≤ 255)) (hp : Hid (IsPos l d i)) (fd : Bool) (hfd0 : Hid ((decide (i < n) && decide (l.getD i [] = d)) = fd)) :
    Calls Tryz.prog 40 #[.slice (some ⟨b, off, none⟩) n c, .agg (bv d).toArray, .func (Fn.func 41) #[] #[]] w fun e w' => e = .returned (.tuple #[.int .i64 i, .bool fd]) ∧ Below w.heap.size w w' := by
  have hnl := Lib.hid hz.out.1
  have hin : i ≤ n := by rw [hnl.out]; exact hp.out.1
  have DB0 := Lib.hid (Dg.box w ld.out)
  have HB0 := Lib.hid (bel_alloc1 w (.cells (bv d).toArray 23))
  go_enter Tryz.func40, Tryz.ntmps40
  go_upto_region 3 with fail
  go_loopw [9, 10] (fun x y wr => ∃ (a e : Nat), a ≤ i ∧ i ≤ e ∧ e ≤ n ∧ x = .int .i64 a ∧ y = .int .i64 e ∧ Hid (Below w.heap.size w wr) ∧ Hid (Dg wr w.heap.size d)) (fun x y _ => (intOf y).toNat - (intOf x).toNat)
  case atStart => exact ⟨0, n, by omega, hin, by omega, rfl, rfl, HB0, DB0⟩
  case round =>
    clear HB0 DB0
    obtain ⟨a, e, h1, h2, h3, rfl, rfl, HB, DB⟩ := hrel
    by_cases hae : a < e
    · have t1 : (a : Int) < e := by omega
      go_upto_region 5 with fail
      obtain ⟨h, hhe⟩ : ∃ h : Nat, ((a : Int) + e) / 2 = h := ⟨(a + e) / 2, by omega⟩
      rw [hhe]
      have hha : a ≤ h := by omega
      have hhb : h < e := by omega
      have hh : h < l.length := by rw [← hnl.out]; omega
      have h0 : ¬ ((h : Int) < 0) := by omega
      have h4 : (h : Int) < n := by omega
      clear hhe
      obtain ⟨xh, hxh⟩ : ∃ x, l.getD h [] = x := ⟨_, rfl⟩
      have LX := Lib.hid (show xh.length = 32 by rw [← hxh]; exact (hd.out.get hh).1)
      have RX := Lib.hid (show ∀ z ∈ xh, 0 ≤ z ∧ z ≤ 255 by rw [← hxh]; exact (hd.out.get hh).2)
      have HH := Lib.hid hh
      have HXH := Lib.hid hxh
      clear hh hxh
      refine wp_region_any (by kernel_rfl) ?_
      change wpAny _ _ _ _ _ _ _ (World.drew _)
      generalize hWD : World.drew _ = W
      have B1 := Lib.hid (show Below w.heap.size w W by rw [← hWD]; exact HB.out.drew)
      have D1 := Lib.hid (show Dg W w.heap.size d by rw [← hWD]; exact (DB.out.drew))
      have Z1 := Lib.hid (show BytesAt W b off l.flatten by rw [← hWD]; exact hb.out.below HB.out.drew hlt)
      have lt1 := Lib.hid (show b < W.heap.size from Nat.lt_of_lt_of_le hlt B1.out.size)
      clear hWD
      have hCD : ∀ u, Ext W u → Ext W u := fun u hu => hu
      refine region_U (D := Ext W) (Ext W) [7] (Ext.refl W) ?_
      refine anyU_takeD (i := 0) (v := .func (Fn.func 41) #[] #[]) 24 rfl rfl (by kernel_rfl) (by kernel_rfl) (by kernel_rfl) (fun _ _ _ h => h) (by kernel_rfl) (Ext.stable _) hCD (yieldsU_val rfl (fun u hu => by go_simp)) ?_
      refine anyU_takeD (i := 1) (v := .slice (some ⟨b, off, none⟩) n c) 25 rfl rfl (by kernel_rfl) (by kernel_rfl) (by kernel_rfl) (fun _ _ _ h => h) (by kernel_rfl) (Ext.stable _) hCD (yieldsU_val rfl (fun u hu => by go_simp)) ?_
      refine anyU_takeD (i := 2) (v := .int .i64 (h : Int)) 26 rfl rfl (by kernel_rfl) (by kernel_rfl) (by kernel_rfl) (fun _ _ _ h => h) (by kernel_rfl) (Ext.stable _) hCD (yieldsU_val rfl (fun u hu => by go_simp)) ?_
      refine anyU_takeD (i := 3) (v := .pointer (some ⟨b, off + h * 32, none⟩)) 27 rfl rfl (by kernel_rfl) (by kernel_rfl) (by kernel_rfl) (fun _ _ _ h => h) (by kernel_rfl) (Ext.stable _) hCD (yieldsU_val rfl (fun u hu => by go_simp)) ?_
      refine anyU_takeD (i := 4) (v := .agg (bv xh).toArray) 28 rfl rfl (by kernel_rfl) (by kernel_rfl) (by kernel_rfl) (fun _ _ _ h => h) (by kernel_rfl) (Ext.stable _) hCD (yieldsU_of_C (yields_loadM (by rfl) (.tmp 27) rfl b (off + h * 32) rfl xh LX.out (fun u hu => by rw [← HXH.out]; exact flat_at hd.out (Z1.out.below hu lt1.out) HH.out))) ?_
      refine anyU_takeD (i := 5) (v := .agg (bv d).toArray) 29 rfl rfl (by kernel_rfl) (by kernel_rfl) (by kernel_rfl) (fun _ _ _ h => h) (by kernel_rfl) (Ext.stable _) hCD (yieldsU_of_C (yields_loadD (by rfl) (.tmp 4) rfl w.heap.size rfl d ld.out (fun u hu => D1.out.bel hu))) ?_
      simp only [Act.put, List.setIfInBounds_toArray, List.set_cons_succ, List.set_cons_zero]
      refine anyU_one 6 1 _ rfl rfl (by kernel_rfl) ?_
      intro u1 hu
      go_wp2_with (go_at_call 41; refine (cmp2_is xh d u1 LX ld RX rd).mono ?_; rintro e u2 ⟨rfl, hb⟩; have E2 := Lib.hid (bel_trans hu hb); clear hb)
      change ∃ C' : World → Prop, _ ∧ _ ∧ _ ∧ anyU _ _ _ _ _ _ 1 _ _ _
      clear hu
      refine anchorF (fun z => Ext W z) hCD (Ext.stable W) E2.out ?_
      (try simp only [Act.put])
      refine anyU_tail 7 [] rfl rfl (by decide) (by kernel_rfl) ?_
      intro u3 hu3
      simp only [Act.put, List.filterMap_cons, List.filterMap_nil, List.getElem?_cons_succ, List.getElem?_cons_zero]
      have B3 := Lib.hid (bel_trans B1.out hu3)
      have HU3 := Lib.hid hu3
      clear hu3 E2
      have DD := Lib.hid (D1.out.bel (show Ext W u3 from HU3.out))
      cases hlt2 : ltD xh d with
      | true =>
        have hhi : h < i := by
          apply Nat.lt_of_not_le; intro hle
          have := hp.out.2.2 h hle HH.out
          rw [HXH.out, hlt2] at this; cases this
        have hcm : cmpZ xh d < 0 := by simpa [ltD] using hlt2
        go_wp2_with fail
        go_roundw
        case rel => exact ⟨h + 1, e, by omega, h2, h3, by simp, rfl, B3, DD⟩
        case measure => simp [intOf]; omega
      | false =>
        have hhi : i ≤ h := by
          apply Nat.le_of_not_lt; intro hle
          have := hp.out.2.1 h hle
          rw [HXH.out, hlt2] at this; cases this
        have hcm : ¬ (cmpZ xh d < 0) := by simpa [ltD] using hlt2
        go_wp2_with fail
        go_roundw
        case rel => exact ⟨a, h, h1, hhi, by omega, rfl, rfl, B3, DD⟩
        case measure => simp [intOf]; omega
    · obtain rfl : a = i := by omega
      obtain rfl : e = a := by omega
      go_upto_region 8 with fail
      by_cases hin2 : e < n
      · have t1 : (e : Int) < n := by omega
        have hh : e < l.length := by rw [← hnl.out]; omega
        have h0 : ¬ ((e : Int) < 0) := by omega
        obtain ⟨xh, hxh⟩ : ∃ x, l.getD e [] = x := ⟨_, rfl⟩
        have LX := Lib.hid (show xh.length = 32 by rw [← hxh]; exact (hd.out.get hh).1)
        have RX := Lib.hid (show ∀ z ∈ xh, 0 ≤ z ∧ z ≤ 255 by rw [← hxh]; exact (hd.out.get hh).2)
        have HH := Lib.hid hh
        have HXH := Lib.hid hxh
        have hq : (cmpZ xh d == 0) = fd := by
          have := hfd0.out
          rw [decide_eq_true hin2, Bool.true_and, hxh] at this
          rw [← this]
          by_cases hx : xh = d
          · rw [hx, cmpZ_self]; simp
          · have : cmpZ xh d ≠ 0 := fun h => hx ((cmpZ_eq _ _).1 h)
            simp [hx, this]
        clear hh hxh
        refine wp_region_any (by kernel_rfl) ?_
        change wpAny _ _ _ _ _ _ _ (World.drew _)
        generalize hWD : World.drew _ = W
        have B1 := Lib.hid (show Below w.heap.size w W by rw [← hWD]; exact HB.out.drew)
        have D1 := Lib.hid (show Dg W w.heap.size d by rw [← hWD]; exact (DB.out.drew))
        have Z1 := Lib.hid (show BytesAt W b off l.flatten by rw [← hWD]; exact hb.out.below HB.out.drew hlt)
        have lt1 := Lib.hid (show b < W.heap.size from Nat.lt_of_lt_of_le hlt B1.out.size)
        clear hWD
        have hCD : ∀ u, Ext W u → Ext W u := fun u hu => hu
        refine region_U (D := Ext W) (Ext W) [15] (Ext.refl W) ?_
        refine anyU_takeD (i := 0) (v := .int .i64 (e : Int)) 35 rfl rfl (by kernel_rfl) (by kernel_rfl) (by kernel_rfl) (fun _ _ _ h => h) (by kernel_rfl) (Ext.stable _) hCD (yieldsU_val rfl (fun u hu => by go_simp)) ?_
        refine anyU_takeD (i := 1) (v := .int .i64 (e : Int)) 36 rfl rfl (by kernel_rfl) (by kernel_rfl) (by kernel_rfl) (fun _ _ _ h => h) (by kernel_rfl) (Ext.stable _) hCD (yieldsU_val rfl (fun u hu => by go_simp)) ?_
        refine anyU_takeD (i := 2) (v := .int .i64 (n : Int)) 37 rfl rfl (by kernel_rfl) (by kernel_rfl) (by kernel_rfl) (fun _ _ _ h => h) (by kernel_rfl) (Ext.stable _) hCD (yieldsU_val rfl (fun u hu => by go_simp)) ?_
        refine anyU_takeD (i := 3) (v := .bool true) 38 rfl rfl (by kernel_rfl) (by kernel_rfl) (by kernel_rfl) (fun _ _ _ h => h) (by kernel_rfl) (Ext.stable _) hCD (yieldsU_val rfl (fun u hu => by go_simp)) ?_
        refine anyU_takeD (i := 4) (v := .bool true) 39 rfl rfl (by kernel_rfl) (by kernel_rfl) (by kernel_rfl) (fun _ _ _ h => h) (by kernel_rfl) (Ext.stable _) hCD (yieldsU_val rfl (fun u hu => by go_simp)) ?_
        simp only [Act.put, List.setIfInBounds_toArray, List.set_cons_succ, List.set_cons_zero]
        refine anyU_takeD (i := 5) (v := .func (Fn.func 41) #[] #[]) 40 rfl rfl (by kernel_rfl) (by kernel_rfl) (by kernel_rfl) (fun _ _ _ h => h) (by kernel_rfl) (Ext.stable _) hCD (yieldsU_val rfl (fun u hu => by go_simp)) ?_
        refine anyU_takeD (i := 6) (v := .slice (some ⟨b, off, none⟩) n c) 41 rfl rfl (by kernel_rfl) (by kernel_rfl) (by kernel_rfl) (fun _ _ _ h => h) (by kernel_rfl) (Ext.stable _) hCD (yieldsU_val rfl (fun u hu => by go_simp)) ?_
        refine anyU_takeD (i := 7) (v := .int .i64 (e : Int)) 42 rfl rfl (by kernel_rfl) (by kernel_rfl) (by kernel_rfl) (fun _ _ _ h => h) (by kernel_rfl) (Ext.stable _) hCD (yieldsU_val rfl (fun u hu => by go_simp)) ?_
        refine anyU_takeD (i := 8) (v := .pointer (some ⟨b, off + e * 32, none⟩)) 43 rfl rfl (by kernel_rfl) (by kernel_rfl) (by kernel_rfl) (fun _ _ _ h => h) (by kernel_rfl) (Ext.stable _) hCD (yieldsU_val rfl (fun u hu => by go_simp)) ?_
        simp only [Act.put, List.setIfInBounds_toArray, List.set_cons_succ, List.set_cons_zero]
        refine anyU_takeD (i := 9) (v := .agg (bv xh).toArray) 44 rfl rfl (by kernel_rfl) (by kernel_rfl) (by kernel_rfl) (fun _ _ _ h => h) (by kernel_rfl) (Ext.stable _) hCD (yieldsU_of_C (yields_loadM (by rfl) (.tmp 43) rfl b (off + e * 32) rfl xh LX.out (fun u hu => by rw [← HXH.out]; exact flat_at hd.out (Z1.out.below hu lt1.out) HH.out))) ?_
        refine anyU_takeD (i := 10) (v := .agg (bv d).toArray) 45 rfl rfl (by kernel_rfl) (by kernel_rfl) (by kernel_rfl) (fun _ _ _ h => h) (by kernel_rfl) (Ext.stable _) hCD (yieldsU_of_C (yields_loadD (by rfl) (.tmp 4) rfl w.heap.size rfl d ld.out (fun u hu => D1.out.bel hu))) ?_
        simp only [Act.put, List.setIfInBounds_toArray, List.set_cons_succ, List.set_cons_zero]
        refine anyU_one 11 4 _ rfl rfl (by kernel_rfl) ?_
        intro u1 hu
        go_wp2_with (go_at_call 41; refine (cmp2_is xh d u1 LX ld RX rd).mono ?_; rintro e u2 ⟨rfl, hb⟩; have E2 := Lib.hid (bel_trans hu hb); clear hb)
        change ∃ C' : World → Prop, _ ∧ _ ∧ _ ∧ anyU _ _ _ _ _ _ 4 _ _ _
        clear hu
        refine anchorF (fun z => Ext W z) hCD (Ext.stable W) E2.out ?_
        (try simp only [Act.put])
        refine anyU_takeD (i := 12) (v := .bool fd) 47 rfl rfl (by kernel_rfl) (by kernel_rfl) (by kernel_rfl) (fun _ _ _ h => h) (by kernel_rfl) (Ext.stable _) hCD (yieldsU_val rfl (fun u hu => by go_simp <;> exact hq)) ?_
        refine anyU_takeD (i := 13) (v := .bool fd) 48 rfl rfl (by kernel_rfl) (by kernel_rfl) (by kernel_rfl) (fun _ _ _ h => h) (by kernel_rfl) (Ext.stable _) hCD (yieldsU_val rfl (fun u hu => by cases fd <;> go_simp)) ?_
        refine anyU_takeD (i := 14) (v := .int .i64 (e : Int)) 6 rfl rfl (by kernel_rfl) (by kernel_rfl) (by kernel_rfl) (fun _ _ _ h => h) (by kernel_rfl) (Ext.stable _) hCD (yieldsU_val rfl (fun u hu => by go_simp)) ?_
        simp only [Act.put, List.setIfInBounds_toArray, List.set_cons_succ, List.set_cons_zero]
        refine anyU_tail 15 [] rfl rfl (by decide) (by kernel_rfl) ?_
        intro u3 hu3
        simp only [Act.put, List.filterMap_cons, List.filterMap_nil, List.getElem?_cons_succ, List.getElem?_cons_zero]
        have B3 := Lib.hid (bel_trans B1.out hu3)
        clear hu3 E2
        go_wp2_with fail
        go_ret2
        exact ⟨rfl, B3.out⟩
      · have t1 : ¬ ((e : Int) < n) := by omega
        obtain rfl : fd = false := by
          have := hfd0.out
          rw [decide_eq_false hin2, Bool.false_and] at this
          exact this.symm
        refine wp_region_any (by kernel_rfl) ?_
        change wpAny _ _ _ _ _ _ _ (World.drew _)
        generalize hWD : World.drew _ = W
        have B1 := Lib.hid (show Below w.heap.size w W by rw [← hWD]; exact HB.out.drew)
        have D1 := Lib.hid (show Dg W w.heap.size d by rw [← hWD]; exact (DB.out.drew))
        clear hWD
        have hCD : ∀ u, Ext W u → Ext W u := fun u hu => hu
        refine region_U (D := Ext W) (Ext W) [15] (Ext.refl W) ?_
        refine anyU_takeD (i := 0) (v := .int .i64 (e : Int)) 35 rfl rfl (by kernel_rfl) (by kernel_rfl) (by kernel_rfl) (fun _ _ _ h => h) (by kernel_rfl) (Ext.stable _) hCD (yieldsU_val rfl (fun u hu => by go_simp)) ?_
        refine anyU_takeD (i := 1) (v := .int .i64 (e : Int)) 36 rfl rfl (by kernel_rfl) (by kernel_rfl) (by kernel_rfl) (fun _ _ _ h => h) (by kernel_rfl) (Ext.stable _) hCD (yieldsU_val rfl (fun u hu => by go_simp)) ?_
        refine anyU_takeD (i := 2) (v := .int .i64 (n : Int)) 37 rfl rfl (by kernel_rfl) (by kernel_rfl) (by kernel_rfl) (fun _ _ _ h => h) (by kernel_rfl) (Ext.stable _) hCD (yieldsU_val rfl (fun u hu => by go_simp)) ?_
        refine anyU_takeD (i := 3) (v := .bool false) 38 rfl rfl (by kernel_rfl) (by kernel_rfl) (by kernel_rfl) (fun _ _ _ h => h) (by kernel_rfl) (Ext.stable _) hCD (yieldsU_val rfl (fun u hu => by go_simp)) ?_
        refine anyU_takeD (i := 4) (v := .bool false) 39 rfl rfl (by kernel_rfl) (by kernel_rfl) (by kernel_rfl) (fun _ _ _ h => h) (by kernel_rfl) (Ext.stable _) hCD (yieldsU_val rfl (fun u hu => by go_simp)) ?_
        simp only [Act.put, List.setIfInBounds_toArray, List.set_cons_succ, List.set_cons_zero]
        refine anyU_takeD (i := 5) (v := undef) 40 rfl rfl (by kernel_rfl) (by kernel_rfl) (by kernel_rfl) (fun _ _ _ h => h) (by kernel_rfl) (Ext.stable _) hCD (.inr ⟨by rfl, rfl⟩) ?_
        refine anyU_takeD (i := 6) (v := undef) 41 rfl rfl (by kernel_rfl) (by kernel_rfl) (by kernel_rfl) (fun _ _ _ h => h) (by kernel_rfl) (Ext.stable _) hCD (.inr ⟨by rfl, rfl⟩) ?_
        refine anyU_takeD (i := 7) (v := undef) 42 rfl rfl (by kernel_rfl) (by kernel_rfl) (by kernel_rfl) (fun _ _ _ h => h) (by kernel_rfl) (Ext.stable _) hCD (.inr ⟨by rfl, rfl⟩) ?_
        refine anyU_takeD (i := 8) (v := undef) 43 rfl rfl (by kernel_rfl) (by kernel_rfl) (by kernel_rfl) (fun _ _ _ h => h) (by kernel_rfl) (Ext.stable _) hCD (.inr ⟨by rfl, rfl⟩) ?_
        refine anyU_takeD (i := 9) (v := undef) 44 rfl rfl (by kernel_rfl) (by kernel_rfl) (by kernel_rfl) (fun _ _ _ h => h) (by kernel_rfl) (Ext.stable _) hCD (.inr ⟨by rfl, rfl⟩) ?_
        simp only [Act.put, List.setIfInBounds_toArray, List.set_cons_succ, List.set_cons_zero]
        refine anyU_takeD (i := 10) (v := undef) 45 rfl rfl (by kernel_rfl) (by kernel_rfl) (by kernel_rfl) (fun _ _ _ h => h) (by kernel_rfl) (Ext.stable _) hCD (.inr ⟨by rfl, rfl⟩) ?_
        refine anyU_takeD (i := 11) (v := undef) 46 rfl rfl (by kernel_rfl) (by kernel_rfl) (by kernel_rfl) (fun _ _ _ h => h) (by kernel_rfl) (Ext.stable _) hCD (.inr ⟨by rfl, rfl⟩) ?_
        refine anyU_takeD (i := 12) (v := undef) 47 rfl rfl (by kernel_rfl) (by kernel_rfl) (by kernel_rfl) (fun _ _ _ h => h) (by kernel_rfl) (Ext.stable _) hCD (.inr ⟨by rfl, rfl⟩) ?_
        refine anyU_takeD (i := 13) (v := .bool false) 48 rfl rfl (by kernel_rfl) (by kernel_rfl) (by kernel_rfl) (fun _ _ _ h => h) (by kernel_rfl) (Ext.stable _) hCD (yieldsU_val rfl (fun u hu => by go_simp)) ?_
        refine anyU_takeD (i := 14) (v := .int .i64 (e : Int)) 6 rfl rfl (by kernel_rfl) (by kernel_rfl) (by kernel_rfl) (fun _ _ _ h => h) (by kernel_rfl) (Ext.stable _) hCD (yieldsU_val rfl (fun u hu => by go_simp)) ?_
        simp only [Act.put, List.setIfInBounds_toArray, List.set_cons_succ, List.set_cons_zero]
        refine anyU_tail 15 [] rfl rfl (by decide) (by kernel_rfl) ?_
        intro u3 hu3
        simp only [Act.put, List.filterMap_cons, List.filterMap_nil, List.getElem?_cons_succ, List.getElem?_cons_zero]
        have B3 := Lib.hid (bel_trans B1.out hu3)
        clear hu3
        go_wp2_with fail
        go_ret2
        exact ⟨rfl, B3.out⟩
set_option maxRecDepth 100000 in
set_option maxHeartbeats 2000000 in
theorem bs_zero (p : Option Addr) (c : Nat) (d : List Int) (w : World) (ld : Hid (d.length = 32)) :
    Calls Tryz.prog 40 #[.slice p 0 c, .agg (bv d).toArray, .func (Fn.func 41) #[] #[]] w fun e w' => e = .returned (.tuple #[.int .i64 0, .bool false]) ∧ Below w.heap.size w w' := by
  have DB0 := Lib.hid (Dg.box w ld.out)
  have HB0 := Lib.hid (bel_alloc1 w (.cells (bv d).toArray 23))
  go_enter Tryz.func40, Tryz.ntmps40
  go_upto_region 3 with fail
  go_loopw [9, 10] (fun x y wr => x = .int .i64 0 ∧ y = .int .i64 0 ∧ Hid (Below w.heap.size w wr) ∧ Hid (Dg wr w.heap.size d)) (fun x y _ => 0)
  case atStart => exact ⟨rfl, rfl, HB0, DB0⟩
  case round =>
    clear HB0 DB0
    obtain ⟨rfl, rfl, HB, DB⟩ := hrel
    go_upto_region 8 with fail
    refine wp_region_any (by kernel_rfl) ?_
    change wpAny _ _ _ _ _ _ _ (World.drew _)
    generalize hWD : World.drew _ = W
    have B1 := Lib.hid (show Below w.heap.size w W by rw [← hWD]; exact HB.out.drew)
    have D1 := Lib.hid (show Dg W w.heap.size d by rw [← hWD]; exact (DB.out.drew))
    clear hWD
    have hCD : ∀ u, Ext W u → Ext W u := fun u hu => hu
    refine region_U (D := Ext W) (Ext W) [15] (Ext.refl W) ?_
    refine anyU_takeD (i := 0) (v := .int .i64 0) 35 rfl rfl (by kernel_rfl) (by kernel_rfl) (by kernel_rfl) (fun _ _ _ h => h) (by kernel_rfl) (Ext.stable _) hCD (yieldsU_val rfl (fun u hu => by go_simp)) ?_
    refine anyU_takeD (i := 1) (v := .int .i64 0) 36 rfl rfl (by kernel_rfl) (by kernel_rfl) (by kernel_rfl) (fun _ _ _ h => h) (by kernel_rfl) (Ext.stable _) hCD (yieldsU_val rfl (fun u hu => by go_simp)) ?_
    refine anyU_takeD (i := 2) (v := .int .i64 0) 37 rfl rfl (by kernel_rfl) (by kernel_rfl) (by kernel_rfl) (fun _ _ _ h => h) (by kernel_rfl) (Ext.stable _) hCD (yieldsU_val rfl (fun u hu => by go_simp)) ?_
    refine anyU_takeD (i := 3) (v := .bool false) 38 rfl rfl (by kernel_rfl) (by kernel_rfl) (by kernel_rfl) (fun _ _ _ h => h) (by kernel_rfl) (Ext.stable _) hCD (yieldsU_val rfl (fun u hu => by go_simp)) ?_
    refine anyU_takeD (i := 4) (v := .bool false) 39 rfl rfl (by kernel_rfl) (by kernel_rfl) (by kernel_rfl) (fun _ _ _ h => h) (by kernel_rfl) (Ext.stable _) hCD (yieldsU_val rfl (fun u hu => by go_simp)) ?_
    simp only [Act.put, List.setIfInBounds_toArray, List.set_cons_succ, List.set_cons_zero]
    refine anyU_takeD (i := 5) (v := undef) 40 rfl rfl (by kernel_rfl) (by kernel_rfl) (by kernel_rfl) (fun _ _ _ h => h) (by kernel_rfl) (Ext.stable _) hCD (.inr ⟨by rfl, rfl⟩) ?_
    refine anyU_takeD (i := 6) (v := undef) 41 rfl rfl (by kernel_rfl) (by kernel_rfl) (by kernel_rfl) (fun _ _ _ h => h) (by kernel_rfl) (Ext.stable _) hCD (.inr ⟨by rfl, rfl⟩) ?_
    refine anyU_takeD (i := 7) (v := undef) 42 rfl rfl (by kernel_rfl) (by kernel_rfl) (by kernel_rfl) (fun _ _ _ h => h) (by kernel_rfl) (Ext.stable _) hCD (.inr ⟨by rfl, rfl⟩) ?_
    refine anyU_takeD (i := 8) (v := undef) 43 rfl rfl (by kernel_rfl) (by kernel_rfl) (by kernel_rfl) (fun _ _ _ h => h) (by kernel_rfl) (Ext.stable _) hCD (.inr ⟨by rfl, rfl⟩) ?_
    refine anyU_takeD (i := 9) (v := undef) 44 rfl rfl (by kernel_rfl) (by kernel_rfl) (by kernel_rfl) (fun _ _ _ h => h) (by kernel_rfl) (Ext.stable _) hCD (.inr ⟨by rfl, rfl⟩) ?_
    simp only [Act.put, List.setIfInBounds_toArray, List.set_cons_succ, List.set_cons_zero]
    refine anyU_takeD (i := 10) (v := undef) 45 rfl rfl (by kernel_rfl) (by kernel_rfl) (by kernel_rfl) (fun _ _ _ h => h) (by kernel_rfl) (Ext.stable _) hCD (.inr ⟨by rfl, rfl⟩) ?_
    refine anyU_takeD (i := 11) (v := undef) 46 rfl rfl (by kernel_rfl) (by kernel_rfl) (by kernel_rfl) (fun _ _ _ h => h) (by kernel_rfl) (Ext.stable _) hCD (.inr ⟨by rfl, rfl⟩) ?_
    refine anyU_takeD (i := 12) (v := undef) 47 rfl rfl (by kernel_rfl) (by kernel_rfl) (by kernel_rfl) (fun _ _ _ h => h) (by kernel_rfl) (Ext.stable _) hCD (.inr ⟨by rfl, rfl⟩) ?_
    refine anyU_takeD (i := 13) (v := .bool false) 48 rfl rfl (by kernel_rfl) (by kernel_rfl) (by kernel_rfl) (fun _ _ _ h => h) (by kernel_rfl) (Ext.stable _) hCD (yieldsU_val rfl (fun u hu => by go_simp)) ?_
    refine anyU_takeD (i := 14) (v := .int .i64 0) 6 rfl rfl (by kernel_rfl) (by kernel_rfl) (by kernel_rfl) (fun _ _ _ h => h) (by kernel_rfl) (Ext.stable _) hCD (yieldsU_val rfl (fun u hu => by go_simp)) ?_
    simp only [Act.put, List.setIfInBounds_toArray, List.set_cons_succ, List.set_cons_zero]
    refine anyU_tail 15 [] rfl rfl (by decide) (by kernel_rfl) ?_
    intro u3 hu3
    simp only [Act.put, List.filterMap_cons, List.filterMap_nil, List.getElem?_cons_succ, List.getElem?_cons_zero]
    have B3 := Lib.hid (bel_trans B1.out hu3)
    clear hu3
    go_wp2_with fail
    go_ret2
    exact ⟨rfl, B3.out⟩
theorem bs_any (l : List (List Int)) (d : List Int) (i n c : Nat) (p : Option Addr) (w : World) (hd : Hid (Dgs l)) (hz : Hid (SrcL w p n c l)) (hn : n ≤ 1000000) (ld : Hid (d.length = 32)) (rd : Hid (∀ z ∈ d, 0 ≤ z ∧ z ≤ 255)) (ha : Hid (adjOK l)) (hp : Hid (IsPos l d i)) (fd : Bool) (hf : Hid (hasD l d = fd)) :
    Calls Tryz.prog 40 #[.slice p n c, .agg (bv d).toArray, .func (Fn.func 41) #[] #[]] w fun e w' => e = .returned (.tuple #[.int .i64 i, .bool fd]) ∧ Below w.heap.size w w' := by
  have hnl := hz.out.1
  have hfd : (decide (i < n) && decide (l.getD i [] = d)) = fd := by
    have h := has_pos ha.out hp.out
    rw [hf.out, ← hnl] at h
    cases fd with
    | true => have := h.1 rfl; simp only [this.1, this.2, decide_true, Bool.and_self]
    | false =>
      rw [Bool.and_eq_false_iff]
      by_cases h1 : i < n
      · right
        rw [decide_eq_false_iff_not]
        intro h2
        have := h.2 ⟨h1, h2⟩
        cases this
      · left; exact decide_eq_false h1
  rcases Nat.eq_zero_or_pos n with h0 | h0
  · have hi : i = 0 := by have := hp.out.1; omega
    subst h0 hi
    obtain rfl : fd = false := by rw [← hfd]; simp
    exact bs_zero p c d w ld
  · obtain ⟨b, off, rfl, hlt, hb⟩ := hz.out.pos h0
    exact bs_some l d i n c b off w hd hz hn hlt (Lib.hid hb) ld rd hp fd (Lib.hid hfd)
end Go.Proofs.YtjdkdhpippapmaaGreatDoor
