/- The digest of a list: digest.Tree. -/
import Derived.Test.YtmheblpgofeafaaDoorDigSplit
namespace Go.Proofs.YtmheblpgofeafaaDoor
open Go.RowKit
set_option linter.unusedVariables false
set_option linter.unusedSimpArgs false

abbrev sEmpty : ByteArray := ⟨#[101, 109, 112, 116, 121]⟩
abbrev sLeaf : ByteArray := ⟨#[108, 101, 97, 102]⟩
abbrev sNode : ByteArray := ⟨#[110, 111, 100, 101]⟩
/-- the digest of a list of n digests, which lie one behind the other -/
inductive IsTree : Nat → List Int → List Int → Prop
  | zero (ds : List Int) : IsTag (strL sEmpty) [] ds → IsTree 0 [] ds
  | one (fs ds : List Int) : fs.length = 32 → IsTag (strL sLeaf) fs ds → IsTree 1 fs ds
  | node (n k : Nat) (fs xs ys ds : List Int) : 1 < n → k = spN n → fs.length = 32 * n → IsTree k (fs.take (32 * k)) xs → IsTree (n - k) (fs.drop (32 * k)) ys → IsTag (strL sNode) (xs ++ ys) ds → IsTree n fs ds
theorem IsTree.len {n : Nat} {fs ds : List Int} (h : IsTree n fs ds) : ds.length = 32 := by
  cases h with
  | zero _ h => exact h.len
  | one _ _ _ h => exact h.len
  | node _ _ _ _ _ _ _ _ _ _ _ h => exact h.len
theorem IsTree.rng {n : Nat} {fs ds : List Int} (h : IsTree n fs ds) : ∀ z ∈ ds, 0 ≤ z ∧ z ≤ 255 := by
  cases h with
  | zero _ h => exact h.rng
  | one _ _ _ h => exact h.rng
  | node _ _ _ _ _ _ _ _ _ _ _ h => exact h.rng
theorem isTree_ex (n : Nat) : ∀ fs : List Int, fs.length = 32 * n → ∃ ds, IsTree n fs ds := by
  induction n using Nat.strongRecOn with
  | _ n ih =>
    intro fs hl
    rcases (by omega : n = 0 ∨ n = 1 ∨ 1 < n) with rfl | rfl | h
    · obtain rfl : fs = [] := List.eq_nil_of_length_eq_zero (by omega)
      obtain ⟨ds, h⟩ := isTag_ex (strL sEmpty) []
      exact ⟨ds, .zero ds h⟩
    · obtain ⟨ds, h⟩ := isTag_ex (strL sLeaf) fs
      exact ⟨ds, .one fs ds hl h⟩
    · have h1 := spN_lt h
      have h2 := spN_pos n
      obtain ⟨xs, ha⟩ := ih (spN n) h1 (fs.take (32 * spN n)) (by rw [List.length_take]; omega)
      obtain ⟨ys, hb⟩ := ih (n - spN n) (by omega) (fs.drop (32 * spN n)) (by rw [List.length_drop]; omega)
      obtain ⟨ds, hd⟩ := isTag_ex (strL sNode) (xs ++ ys)
      exact ⟨ds, .node n _ fs xs ys ds h rfl hl ha hb hd⟩

/-- a slice of digests -/
def SrcD (w : World) (p : Option Addr) (n cap : Nat) (fs : List Int) : Prop :=
  fs.length = 32 * n ∧ n ≤ cap ∧ cap ≤ maxLen ∧ ((n = 0 ∧ (p = none → cap = 0)) ∨ ∃ b off, p = some ⟨b, off, none⟩ ∧ b < w.heap.size ∧ BytesAt w b off fs)
theorem SrcD.below {w w' : World} {p : Option Addr} {n cap : Nat} {fs : List Int} (h : SrcD w p n cap fs) (k : Below w.heap.size w w') : SrcD w' p n cap fs := by
  obtain ⟨h1, h2, h3, h4 | ⟨b, off, rfl, hb, hc⟩⟩ := h
  · exact ⟨h1, h2, h3, .inl h4⟩
  · exact ⟨h1, h2, h3, .inr ⟨b, off, rfl, Nat.lt_of_lt_of_le hb k.size, hc.below k hb⟩⟩

set_option maxRecDepth 100000 in
set_option maxHeartbeats 2000000 in
theorem tree_zero (p : Option Addr) (cap : Nat) (ds : List Int) (w : World) (hk : Hid (KeysAt w)) (hds : Hid (IsTag (strL sEmpty) [] ds)) :
    Calls Tryd.prog 19 #[.slice p 0 cap] w fun e w' => e = .returned (.agg (bv ds).toArray) ∧ Below w.heap.size w w' := by
  go_enter Tryd.func19, Tryd.ntmps19
  go_upto_region 1 with (fail)
  generalize hW : World.alloc _ _ = W1
  have T1 := Lib.hid (show Blk W1 w.heap.size (bv (List.replicate 32 0)).toArray 26 by rw [← hW]; exact zeros32 w)
  have B1 := Lib.hid (show Below w.heap.size w W1 by rw [← hW]; exact bel_alloc1 w _)
  clear hW
  obtain ⟨tb, htb⟩ : ∃ b, w.heap.size = b := ⟨_, rfl⟩
  have hB : w.heap.size ≤ tb := by omega
  have B2 : Hid (Below w.heap.size w W1) := B1
  rw [htb] at T1 ⊢
  clear B1
  have HTB := Lib.hid htb
  clear htb
  obtain ⟨ts, hts, hss⟩ := hds.out
  go_wp2_with fail
  refine (tagged_any sEmpty none 0 0 [] W1 (Lib.hid (.inl ⟨rfl, .inl ⟨rfl, rfl, rfl⟩⟩)) (Lib.hid (by simp)) (by decide) (by decide) (Lib.hid (hk.out.below B2.out)) ts ds (Lib.hid hts) (Lib.hid hss)).mono ?_
  rintro e w6 ⟨rfl, hb6⟩
  have T6 := Lib.hid (T1.out.below hb6 T1.out.lt)
  have B6 := Lib.hid (B2.out.trans (hb6.mono B2.out.size))
  clear hb6 T1 B2
  have hd32 : ds.length = 32 := hds.out.len
  have q1 := size32' ds hd32
  have q3 := size32 ds hd32
  have q4 : w6.there tb 0 (bv ds).toArray.size := by have := T6.out.there; simp only [bv_len, List.length_replicate] at this; simp only [List.size_toArray, bv_len, hd32]; exact this
  have q5 := all_oneCell_toArray (bv_one ds)
  have HD := Lib.hid hd32
  clear hd32
  go_wp2_with (refine wpList_store_mid rfl 26 _ _ rfl tb 0 (bv ds).toArray rfl rfl q4 q3 q5 ?_)
  refine bodyPost_ret (v := .agg (bv ds).toArray) (results_cell1 (a := ⟨tb, 0, none⟩) rfl _ rfl (run_loadVar_mid _ tb 0 _ (bv ds) _ (T6.out.fill (by rw [bv_len, bv_len, List.length_replicate, HD.out])).range Tryd.underlying26 rfl q1)) rfl ⟨rfl, setCells_below (by omega) _ _ B6.out⟩
set_option maxRecDepth 100000 in
set_option maxHeartbeats 2000000 in
theorem tree_one (b off cap : Nat) (fs ds : List Int) (w : World) (hz : Hid (BytesAt w b off fs)) (hb : b < w.heap.size) (hl : Hid (fs.length = 32)) (rf : Hid (∀ z ∈ fs, 0 ≤ z ∧ z ≤ 255)) (hc : 1 ≤ cap) (hm : cap ≤ 9223372036854775807) (hk : Hid (KeysAt w)) (hds : Hid (IsTag (strL sLeaf) fs ds)) :
    Calls Tryd.prog 19 #[.slice (some ⟨b, off, none⟩) 1 cap] w fun e w' => e = .returned (.agg (bv ds).toArray) ∧ Below w.heap.size w w' := by
  go_enter Tryd.func19, Tryd.ntmps19
  go_upto_region 1 with (fail)
  generalize hW : World.alloc _ _ = W1
  have T1 := Lib.hid (show Blk W1 w.heap.size (bv (List.replicate 32 0)).toArray 26 by rw [← hW]; exact zeros32 w)
  have B1 := Lib.hid (show Below w.heap.size w W1 by rw [← hW]; exact bel_alloc1 w _)
  clear hW
  obtain ⟨tb, htb⟩ : ∃ b, w.heap.size = b := ⟨_, rfl⟩
  have hB : w.heap.size ≤ tb := by omega
  have B2 : Hid (Below w.heap.size w W1) := B1
  rw [htb] at T1 ⊢
  clear B1
  have HTB := Lib.hid htb
  clear htb
  obtain ⟨ts, hts, hss⟩ := hds.out
  go_wp2_with fail
  refine (tagged_any sLeaf (some ⟨b, off, none⟩) 32 32 fs W1 (Lib.hid (.inl ⟨hl.out.symm, .inr ⟨b, off, rfl, Nat.lt_of_lt_of_le hb B2.out.size, hz.out.below B2.out hb⟩⟩)) rf (by decide) (by decide) (Lib.hid (hk.out.below B2.out)) ts ds (Lib.hid hts) (Lib.hid hss)).mono ?_
  rintro e w6 ⟨rfl, hb6⟩
  have T6 := Lib.hid (T1.out.below hb6 T1.out.lt)
  have B6 := Lib.hid (B2.out.trans (hb6.mono B2.out.size))
  clear hb6 T1 B2
  have hd32 : ds.length = 32 := hds.out.len
  have q1 := size32' ds hd32
  have q3 := size32 ds hd32
  have q4 : w6.there tb 0 (bv ds).toArray.size := by have := T6.out.there; simp only [bv_len, List.length_replicate] at this; simp only [List.size_toArray, bv_len, hd32]; exact this
  have q5 := all_oneCell_toArray (bv_one ds)
  have HD := Lib.hid hd32
  clear hd32
  go_wp2_with (refine wpList_store_mid rfl 26 _ _ rfl tb 0 (bv ds).toArray rfl rfl q4 q3 q5 ?_)
  refine bodyPost_ret (v := .agg (bv ds).toArray) (results_cell1 (a := ⟨tb, 0, none⟩) rfl _ rfl (run_loadVar_mid _ tb 0 _ (bv ds) _ (T6.out.fill (by rw [bv_len, bv_len, List.length_replicate, HD.out])).range Tryd.underlying26 rfl q1)) rfl ⟨rfl, setCells_below (by omega) _ _ B6.out⟩
set_option maxRecDepth 100000 in
set_option maxHeartbeats 2000000 in
theorem tree_node (b off n k cap : Nat) (fs xs ys ds : List Int) (w : World) (hz : Hid (BytesAt w b off fs)) (hb : b < w.heap.size) (hl : Hid (fs.length = 32 * n)) (rf : Hid (∀ z ∈ fs, 0 ≤ z ∧ z ≤ 255)) (hn : 1 < n) (hn2 : n ≤ 1099511627776) (hc : n ≤ cap) (hm : cap ≤ 9223372036854775807) (hkn : Hid (k = spN n)) (hk0 : 0 < k) (hk1 : k < n)
    (hk : Hid (KeysAt w)) (hda : Hid (xs.length = 32)) (hdb : Hid (ys.length = 32)) (hra : Hid (∀ z ∈ xs, 0 ≤ z ∧ z ≤ 255)) (hrb : Hid (∀ z ∈ ys, 0 ≤ z ∧ z ≤ 255)) (hds : Hid (IsTag (strL sNode) (xs ++ ys) ds))
    (IA : ∀ u : World, Below w.heap.size w u → Calls Tryd.prog 19 #[.slice (some ⟨b, off, none⟩) k cap] u fun e w' => e = .returned (.agg (bv xs).toArray) ∧ Below u.heap.size u w')
    (IB : ∀ u : World, Below w.heap.size w u → Calls Tryd.prog 19 #[.slice (some ⟨b, off + 32 * k, none⟩) (n - k) (cap - k)] u fun e w' => e = .returned (.agg (bv ys).toArray) ∧ Below u.heap.size u w') :
    Calls Tryd.prog 19 #[.slice (some ⟨b, off, none⟩) n cap] w fun e w' => e = .returned (.agg (bv ds).toArray) ∧ Below w.heap.size w w' := by
  have t1 : ¬ ((n : Int) = 1) := by omega
  have t0 : ¬ ((n : Int) = 0) := by omega
  go_enter Tryd.func19, Tryd.ntmps19
  go_upto_region 1 with (fail)
  generalize hW : World.alloc _ _ = W1
  have T1 := Lib.hid (show Blk W1 w.heap.size (bv (List.replicate 32 0)).toArray 26 by rw [← hW]; exact zeros32 w)
  have B1 := Lib.hid (show Below w.heap.size w W1 by rw [← hW]; exact bel_alloc1 w _)
  clear hW
  obtain ⟨tb, htb⟩ : ∃ b, w.heap.size = b := ⟨_, rfl⟩
  have hB : w.heap.size ≤ tb := by omega
  have B2 : Hid (Below w.heap.size w W1) := B1
  rw [htb] at T1 ⊢
  clear B1
  have HTB := Lib.hid htb
  clear htb
  go_wp2_with fail
  refine (split_any n W1 hn (by omega)).mono ?_; rintro e w' ⟨rfl, rfl⟩
  rw [← hkn.out]
  go_upto_region 7 with (fail)
  have s0 : (k : Int) ≤ (cap : Int) := by omega
  have s1 : (k : Int) ≤ (n : Int) := by omega
  have s2 : ¬ (cap = k) := by omega
  refine wp_region_any (by kernel_rfl) ?_
  change wpAny _ _ _ _ _ _ _ (World.drew _)
  refine wpAny_take (i := 0) (v := ?v0) rfl (by kernel_rfl) (by kernel_rfl) (by kernel_rfl) (fun _ _ _ h => h) (Or.inl ⟨by rfl, ?y0⟩) ?_
  case y0 => intro u; rfl
  refine wpAny_take (i := 1) (v := ?v1) rfl (by kernel_rfl) (by kernel_rfl) (by kernel_rfl) (fun _ _ _ h => h) (Or.inl ⟨by rfl, ?y1⟩) ?_
  case y1 => intro u; rfl
  refine wpAny_take (i := 2) (v := .slice (some ⟨b, off, none⟩) k cap) rfl (by kernel_rfl) (by kernel_rfl) (by kernel_rfl) (fun _ _ _ h => h) (Or.inl ⟨by rfl, ?y2⟩) ?_
  case y2 => intro u; simp only [Act.put]; go_simp
  refine wpAny_take (i := 4) (v := ?v4) rfl (by kernel_rfl) (by kernel_rfl) (by kernel_rfl) (fun _ _ _ h => h) (Or.inl ⟨by rfl, ?y4⟩) ?_
  case y4 => intro u; rfl
  refine wpAny_take (i := 5) (v := ?v5) rfl (by kernel_rfl) (by kernel_rfl) (by kernel_rfl) (fun _ _ _ h => h) (Or.inl ⟨by rfl, ?y5⟩) ?_
  case y5 => intro u; rfl
  refine wpAny_take (i := 6) (v := .slice (some ⟨b, off + 32 * k, none⟩) (n - k) (cap - k)) rfl (by kernel_rfl) (by kernel_rfl) (by kernel_rfl) (fun _ _ _ h => h) (Or.inl ⟨by rfl, ?y6⟩) ?_
  case y6 => intro u; simp only [Act.put]; go_simp
  refine any_order [3, 7, 8, 9] rfl (by decide) (by kernel_rfl) ?_
  simp only [Act.put, List.filterMap_cons, List.filterMap_nil, List.getElem?_cons_succ, List.getElem?_cons_zero]
  go_wp2_with fail
  refine (IA _ B2.out.drew).mono ?_; rintro e w1 ⟨rfl, hb1⟩
  have T3 := Lib.hid (T1.out.drew.below hb1 T1.out.lt)
  have B3 := Lib.hid (B2.out.drew.trans (hb1.mono B2.out.size))
  clear hb1 T1 B2
  go_wp2_with fail
  refine (IB _ B3.out).mono ?_; rintro e w2 ⟨rfl, hb2⟩
  have T4 := Lib.hid (T3.out.below hb2 T3.out.lt)
  have B4 := Lib.hid (B3.out.trans (hb2.mono B3.out.size))
  clear hb2 T3 B3
  go_wp2_with fail
  refine (both_any sNode xs ys ds w2 hda hdb hra hrb (by decide) (Lib.hid (hk.out.below B4.out)) hds).mono ?_
  rintro e w6 ⟨rfl, hb6⟩
  have T6 := Lib.hid (T4.out.below hb6 T4.out.lt)
  have B6 := Lib.hid (B4.out.trans (hb6.mono B4.out.size))
  clear hb6 T4 B4
  have hd32 : ds.length = 32 := hds.out.len
  have q1 := size32' ds hd32
  have q3 := size32 ds hd32
  have q4 : w6.there tb 0 (bv ds).toArray.size := by have := T6.out.there; simp only [bv_len, List.length_replicate] at this; simp only [List.size_toArray, bv_len, hd32]; exact this
  have q5 := all_oneCell_toArray (bv_one ds)
  have HD := Lib.hid hd32
  clear hd32
  rename_i KK hKK
  refine hKK _ _ ?_
  refine wpList_store_mid rfl 26 (.tmp 2) (.tmp 26) rfl tb 0 (bv ds).toArray rfl rfl q4 q3 q5 ?_
  go_wp2_with fail
  refine bodyPost_ret (v := .agg (bv ds).toArray) (results_cell1 (a := ⟨tb, 0, none⟩) rfl _ rfl (run_loadVar_mid _ tb 0 _ (bv ds) _ (T6.out.fill (by rw [bv_len, bv_len, List.length_replicate, HD.out])).range Tryd.underlying26 rfl q1)) rfl ⟨rfl, setCells_below (by omega) _ _ B6.out⟩

/-- the digest of a list -/
theorem tree_any (n : Nat) : ∀ (fs ds : List Int), IsTree n fs ds → ∀ (p : Option Addr) (cap : Nat) (w : World), Hid (SrcD w p n cap fs) → Hid (∀ z ∈ fs, 0 ≤ z ∧ z ≤ 255) → n ≤ 1099511627776 → Hid (KeysAt w) →
    Calls Tryd.prog 19 #[.slice p n cap] w fun e w' => e = .returned (.agg (bv ds).toArray) ∧ Below w.heap.size w w' := by
  have hml : maxLen ≤ 9223372036854775807 := by decide
  induction n using Nat.strongRecOn with
  | _ n ih =>
    intro fs ds ht p cap w hz hr hn hk
    obtain ⟨hl, hc, hm, hp⟩ := hz.out
    cases ht with
    | zero _ h => exact tree_zero p cap ds w hk (Lib.hid h)
    | one _ _ h0 h =>
      obtain ⟨h1, _⟩ | ⟨b, off, rfl, hb, hz1⟩ := hp
      · omega
      · exact tree_one b off cap fs ds w (Lib.hid hz1) hb (Lib.hid h0) hr hc (by omega) hk (Lib.hid h)
    | node _ k _ xs ys _ h1 hk2 h0 hx hy h =>
      obtain ⟨h2, _⟩ | ⟨b, off, rfl, hb, hz1⟩ := hp
      · omega
      · have k0 : 0 < k := by rw [hk2]; exact spN_pos n
        have k1 : k < n := by rw [hk2]; exact spN_lt h1
        refine tree_node b off n k cap fs xs ys ds w (Lib.hid hz1) hb (Lib.hid hl) hr h1 hn hc (by omega) (Lib.hid hk2) k0 k1 hk (Lib.hid hx.len) (Lib.hid hy.len) (Lib.hid hx.rng) (Lib.hid hy.rng) (Lib.hid h) ?_ ?_
        · intro u hu
          exact ih k k1 _ _ hx _ _ u (Lib.hid ⟨by rw [List.length_take]; omega, by omega, hm, .inr ⟨b, off, rfl, Nat.lt_of_lt_of_le hb hu.size, (hz1.below hu hb).take _⟩⟩) (Lib.hid fun z hz => hr.out z (List.mem_of_mem_take hz)) (by omega) (Lib.hid (hk.out.below hu))
        · intro u hu
          exact ih (n - k) (by omega) _ _ hy _ _ u (Lib.hid ⟨by rw [List.length_drop]; omega, by omega, by omega, .inr ⟨b, off + 32 * k, rfl, Nat.lt_of_lt_of_le hb hu.size, (hz1.below hu hb).drop _⟩⟩) (Lib.hid fun z hz => hr.out z (List.mem_of_mem_drop hz)) (by omega) (Lib.hid (hk.out.below hu))
end Go.Proofs.YtmheblpgofeafaaDoor
