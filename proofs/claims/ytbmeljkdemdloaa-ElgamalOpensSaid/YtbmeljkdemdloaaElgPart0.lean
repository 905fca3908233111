/- What ElgamalPart's walk needs: keys without one, a letter stripped of one. -/
import Derived.Test.YtbmeljkdemdloaaElgOwn
import Derived.Test.YtbmeljkdemdloaaElgHid
namespace Go.Proofs.Ytbmeljkdemdloaa
open Go.ChangeShapes Go.WideShapes Go.ChangeAt Go.RowKit Go.Shelf
set_option linter.unusedVariables false

theorem step_append_own {P : Program} {ops : Array Oper} {o : Oper} {a : Act} {w : World} {K : Act → World → Prop} {Q : Exit → Act → World → Prop} {E : Prop} (hgd : o.guard = none) (s x : Operand) (t : TypeId)
    (ho : o.op = .call { callee := .builtin .append, args := #[s, x], argTypes := #[t, t] })
    (base : Nat) (e : TypeId) (i : TypeInfo) (z : Value) (size bytes : Nat) (ht : P.underlying t = some (.slice e)) (hi : P.info? e = some i) (hz : i.zero = some z)
    (hsize : i.size = size) (hby : i.bytes = bytes) (hzs : z.cells.size = size) (hsz : 0 < size)
    (v : Value) (n : Nat) (xs : List Value) (hs : a.eval s = v) (hown : w.ownsRow base e size v n xs)
    (ad : Addr) (m c : Nat) (news : List Value) (hx : a.eval x = .slice (some ad) m c) (hl : news.length = m * size) (hnews : ∀ j u, news[j]? = some u → w.cell? (ad.add j) = some u) (h1 : ∀ u ∈ news, u.oneCell' = true)
    (h63 : n + m ≤ maxLen) (hbytes : (n + m) * bytes ≤ 140737488355328) (hbase : base ≤ w.heap.size)
    (h : ∀ v' w', w'.ownsRow base e size v' (n + m) (xs ++ news) → w.grownBy w' v.ownBlock → K (a.put o.dst v') w') :
    if Region.wanted o (yielded ops a.tmps) = true then Oper.wp P o a w K Q else E := by
  rw [if_pos (by simp [Region.wanted, hgd])]
  exact wp_append_own w s x t ho base e i z size bytes ht hi hz hsize hby hzs hsz v n xs hs hown ad m c news hx hl hnews h1 h63 hbytes hbase fun v' w' a b _ => h v' w' a b

section
variable {H : Type} {enc : TypeId × Value → H} {P : Program} {w : World} {base : Nat} {spare : Nat → Bool} {held : Bool}
theorem open_intsC {r : Reach} {b0 : Nat} {t e : TypeId} {v : Value} {d : DataW H} {ps : List MemPlace} (ht : P.underlying t = some (.slice e)) (he : P.underlying e = some (.int .i64)) (hc : P.cellsOf e = 1)
    (hval : Value.okWide P w r b0 t v) (hd : DataW.Trod enc P w base spare held t v d ps) :
    ∃ p n cap zs, v = .slice p n cap ∧ IntsV w p n cap zs ∧ n ≤ cap ∧ cap ≤ maxLen := by
  obtain ⟨p, n, cap, zs, rfl, h1, h2⟩ := open_intsV ht he hc hval hd
  obtain ⟨fuel, hf⟩ := hd
  rcases open_ints ht he hc hf with ⟨hcs, _⟩ | ⟨x, l, c, ys, hcs, _, hl, hm, _⟩
  · simp [Value.cells] at hcs
    obtain ⟨rfl, rfl, rfl⟩ := hcs
    exact ⟨none, 0, 0, zs, rfl, h1, by omega, by unfold maxLen; omega⟩
  · simp [Value.cells] at hcs
    obtain ⟨rfl, rfl, rfl⟩ := hcs
    exact ⟨_, _, _, zs, rfl, h1, hl, hm⟩
end

theorem add_none (b off k : Nat) : (⟨b, off, none⟩ : Addr).add k = ⟨b, off + k, none⟩ := by
  unfold Addr.add; split
  · rename_i h; subst h; rfl
  · rfl
theorem foldl_mul : ∀ (l : List Int) (a : Int), elB a = true → l.all elB = true → l.foldl mulZ a = mulZ a (l.foldl mulZ 1)
  | [], a, ha, _ => by simp [mulZ_one_r ha]
  | x :: l, a, ha, hl => by
    rw [List.all_cons, Bool.and_eq_true] at hl
    have hp := foldl_el l 1 elB_one hl.2
    rw [List.foldl_cons, List.foldl_cons, foldl_mul l _ (mulZ_el ha hl.1) hl.2, mulZ_one hl.1, foldl_mul l x hl.1 hl.2, mulZ_assoc ha hl.1 hp]
/-- the key of all is the key of the others, and one more -/
theorem join_split {a b : List Int} {x : Int} (ha : a.all elB = true) (hb : b.all elB = true) (hx : elB x = true) : joinZ (a ++ x :: b) = mulZ (joinZ (a ++ b)) x ∧ elB (joinZ (a ++ b)) = true := by
  have h1 : (a ++ b).all elB = true := by rw [List.all_append, ha, hb]; rfl
  have h2 : (a ++ x :: b).all elB = true := by rw [List.all_append, ha, List.all_cons, hx, hb]; rfl
  have pa := foldl_el a 1 elB_one ha
  have pb := foldl_el b 1 elB_one hb
  unfold joinZ
  rw [if_pos h1, if_pos h2, List.foldl_append, List.foldl_append, List.foldl_cons, foldl_mul b _ (mulZ_el pa hx) hb, foldl_mul b _ pa hb]
  refine ⟨?_, mulZ_el pa pb⟩
  rw [mulZ_assoc pa hx pb, mulZ_comm hx pb, ← mulZ_assoc pa pb hx]
theorem strip_one {e j s r : Int} (he : elB e = true) (hj : elB j = true) : mulZ (mulZ e (powZ (mulZ j (powZ 4 s)) r)) (powZ (powZ 4 r) (-s)) = mulZ e (powZ j r) := by
  have h4 := elB_4
  rw [powZ_mulb hj (powZ_el h4 s), powZ_mul h4, powZ_mul h4, mulZ_assoc he (mulZ_el (powZ_el hj _) (powZ_el h4 _)) (powZ_el h4 _), mulZ_assoc (powZ_el hj _) (powZ_el h4 _) (powZ_el h4 _), powZ_add h4,
    show s * r + r * -s = 0 by rw [Int.mul_neg, Int.mul_comm]; omega, powZ_zero h4, mulZ_one_r (powZ_el hj _)]
theorem strip6 {s a0 b0 a1 b1 a2 b2 : Int} (hs : secB s = true) (h : chkE a0 b0 a1 b1 a2 b2 = 0) :
    stripR s ((a0, b0), (a1, b1), (a2, b2)) = ((a0, mulZ b0 (powZ a0 (-s))), (a1, mulZ b1 (powZ a1 (-s))), (a2, mulZ b2 (powZ a2 (-s)))) ∧ stripE s ((a0, b0), (a1, b1), (a2, b2)) = 0 := by
  unfold stripR stripE
  rw [if_pos hs, if_pos hs, if_pos h]
  exact ⟨rfl, h⟩
/-- a letter sealed for all, stripped of one: sealed for the others -/
theorem strip_seal {j n0 n1 n2 r0 r1 r2 s : Int} (hj : elB j = true) (hs : secB s = true) (hw : words3 n0 n1 n2 = true) :
    stripR s (sealR (mulZ j (pubZ s)) n0 n1 n2 r0 r1 r2) = sealR j n0 n1 n2 r0 r1 r2 ∧ stripE s (sealR (mulZ j (pubZ s)) n0 n1 n2 r0 r1 r2) = 0 := by
  have hp := pub_el hs
  have hk := mulZ_el hj hp
  obtain ⟨w0, w1, w2⟩ := words3_iff hw
  have e0 := elm_range (wordB_iff w0); have e1 := elm_range (wordB_iff w1); have e2 := elm_range (wordB_iff w2)
  have hps : pubZ s = powZ 4 s := by unfold pubZ; rw [if_pos hs]
  rw [seal_val hk hw, seal_val hj hw]
  have hc : ∀ r : Int, elB (powZ 4 r) = true := fun r => powZ_el elB_4 r
  have hchk := chk_of (hc r0) (mulZ_el e0 (powZ_el hk r0)) (hc r1) (mulZ_el e1 (powZ_el hk r1)) (hc r2) (mulZ_el e2 (powZ_el hk r2))
  rw [(strip6 hs hchk).1, (strip6 hs hchk).2, hps, strip_one e0 hj, strip_one e1 hj, strip_one e2 hj]
  exact ⟨rfl, rfl⟩
end Go.Proofs.Ytbmeljkdemdloaa
