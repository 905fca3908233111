/- The last tier that a crowd reaches. -/
import Derived.Test.YticaeecfhfjjeaaTarLaw3
namespace Go.Proofs.Yticaeecfhfjjeaa
open Go.RowKit
set_option linter.unusedVariables false
def exG : Option Tr → Int
  | none => 0
  | some t => t.2
def Pick (m : Int) (ts : List Tr) (k : Nat) (g : Option Tr) : Prop := (∀ t, g = some t → t.1 ≤ m ∧ t ∈ ts) ∧ ((k < ts.length → m < (ts.getD k (0, 0)).1) → extraF m (ts.take k) = exG g)
theorem pick_0 (m : Int) (ts : List Tr) : Pick m ts 0 none := ⟨by simp, fun _ => rfl⟩
theorem pick_no {m : Int} {ts : List Tr} {k : Nat} {g : Option Tr} (h : Pick m ts k g) (hk : k < ts.length) (hx : m < (ts.getD k (0, 0)).1) : Pick m ts (k + 1) g :=
  ⟨h.1, fun _ => by rw [take_snocD ts k (0, 0) hk, extraF_snoc, if_neg (by omega)]; exact h.2 (fun _ => hx)⟩
theorem pick_wait {m : Int} {ts : List Tr} {k : Nat} {g : Option Tr} (h : Pick m ts k g) (hk : k + 1 < ts.length) (hx : (ts.getD (k + 1) (0, 0)).1 ≤ m) : Pick m ts (k + 1) g :=
  ⟨h.1, fun h' => by have := h' hk; omega⟩
theorem pick_yes {m : Int} {ts : List Tr} {k : Nat} (hk : k < ts.length) (hx : (ts.getD k (0, 0)).1 ≤ m) : Pick m ts (k + 1) (some (ts.getD k (0, 0))) :=
  ⟨by intro t e; cases e; exact ⟨hx, getD_mem hk⟩, fun _ => by rw [take_snocD ts k (0, 0) hk, extraF_snoc, if_pos hx]; rfl⟩
theorem pick_end {m : Int} {ts : List Tr} {g : Option Tr} (h : Pick m ts ts.length g) : extraF m ts = exG g := by
  have := h.2 (fun h => absurd h (Nat.lt_irrefl _))
  rwa [List.take_length] at this
theorem pick_one {m : Int} {ts : List Tr} {k : Nat} {g : Option Tr} (h : Pick m ts k g) : extraF m g.toList = exG g := by
  cases g with
  | none => rfl
  | some t => have := (h.1 t rfl).1; simp [extraF, exG, this]
theorem prev_ge {ts : List Tr} (h : tiersB ts = true) : ∀ k, k ≤ ts.length → 0 ≤ prevF ts k := by
  intro k
  induction k with
  | zero => intro _; exact Int.le_refl 0
  | succ k ih =>
    intro hk
    have h0 := ih (by omega)
    have := List.all_eq_true.1 h k (by simp; omega)
    unfold okT at this
    simp only [Bool.and_eq_true, decide_eq_true_eq] at this
    show 0 ≤ (ts.getD k (0, 0)).1
    omega
theorem pick_tiers {m : Int} {ts : List Tr} {k : Nat} {g : Option Tr} (ht : tiersB ts = true) (h : Pick m ts k g) : tiersB g.toList = true := by
  cases g with
  | none => rfl
  | some t =>
    obtain ⟨j, hj, rfl⟩ := List.mem_iff_getElem.1 (h.1 t rfl).2
    have := List.all_eq_true.1 ht j (by simp [hj])
    have hp := prev_ge ht j (by omega)
    unfold okT at this
    simp only [Bool.and_eq_true, decide_eq_true_eq] at this
    rw [List.getD_eq_getElem?_getD, List.getElem?_eq_getElem hj] at this
    simp only [Option.getD_some] at this
    show (List.range 1).all (okT [ts[j]]) = true
    simp only [List.range_one, List.all_cons, List.all_nil, Bool.and_true]
    unfold okT
    simp only [Bool.and_eq_true, decide_eq_true_eq]
    exact ⟨by show (0 : Int) < ts[j].1; omega, this.2⟩
theorem chk_one {m : Int} {ts : List Tr} {k : Nat} {g : Option Tr} {x y : Int} (ht : tiersB ts = true) (h : Pick m ts k g) (x0 : 0 ≤ x) (x1 : x ≤ 1048576) (y0 : 0 ≤ y) (y1 : y ≤ 1048576) : chkB [y] [x] g.toList = true := by
  have hl : g.toList.length ≤ 1 := by cases g <;> simp
  unfold chkB
  rw [pick_tiers ht h]
  have hx : priceB x = true := by unfold priceB; simp; omega
  have hy : priceB y = true := by unfold priceB; simp; omega
  unfold lensB
  simp [hx, hy]
  omega
theorem tierNew {W : World} {b : Nat} {t : TypeId} {f x : Int} (h : Blk W b #[.int .i64 f, .int .i64 x] t) (hf : i64B f) (hx : i64B x) : TiersV W (some ⟨b, 0, none⟩) 1 [(f, x)] := by
  refine ⟨rfl, by omega, by intro z hz; simp at hz; subst hz; exact ⟨hf, hx⟩, .inr ⟨b, 0, rfl, h.lt, fun j hj => ?_⟩⟩
  match j, hj with
  | 0, _ => exact ⟨h.cell 0, h.cell 1⟩
theorem tiersNone (W : World) (q : Option Addr) : TiersV W q 0 [] := ⟨rfl, by omega, by simp, .inl rfl⟩
theorem ints1 {W : World} {b : Nat} {t : TypeId} {a : Int} (h : Blk W b #[.int .i64 a] t) (ha : i64B a) : IntsV W (some ⟨b, 0, none⟩) 1 [a] :=
  ints_blk (zs := [a]) h (by simp) (by intro z hz; simp at hz; subst hz; exact ha)
/-- The box of the tariff with one class. -/
def One (w W : World) (bo b1 b2 : Nat) (y x : Int) (q : Option Addr) (mq cq : Nat) : Prop :=
  Below w.heap.size w W ∧ w.heap.size ≤ bo ∧ bo ≠ b1 ∧ bo ≠ b2 ∧ Blk W bo #[.slice (some ⟨b1, 0, none⟩) 1 1, .slice (some ⟨b2, 0, none⟩) 1 1, .slice q mq cq] 25 ∧ Blk W b1 #[.int .i64 y] 3 ∧ Blk W b2 #[.int .i64 x] 3
theorem One.below {w W W' : World} {bo b1 b2 : Nat} {y x : Int} {q : Option Addr} {mq cq : Nat} (h : One w W bo b1 b2 y x q mq cq) (k : Below W.heap.size W W') : One w W' bo b1 b2 y x q mq cq :=
  ⟨bel_trans h.1 k, h.2.1, h.2.2.1, h.2.2.2.1, h.2.2.2.2.1.below k h.2.2.2.2.1.lt, h.2.2.2.2.2.1.below k h.2.2.2.2.2.1.lt, h.2.2.2.2.2.2.below k h.2.2.2.2.2.2.lt⟩
theorem One.put {w W : World} {bo b1 b2 : Nat} {y x : Int} {q q' : Option Addr} {mq cq mq' cq' : Nat} (h : One w W bo b1 b2 y x q mq cq) : One w (W.setCell ⟨bo, 2, none⟩ (.slice q' mq' cq')) bo b1 b2 y x q' mq' cq' :=
  ⟨h.1.setCell (p := ⟨bo, 2, none⟩) h.2.1 _, h.2.1, h.2.2.1, h.2.2.2.1, h.2.2.2.2.1.set 2 _, h.2.2.2.2.2.1.other 2 _ (fun e => h.2.2.1 e.symm), h.2.2.2.2.2.2.other 2 _ (fun e => h.2.2.2.1 e.symm)⟩
section
variable {w : World} {y x : Int}
theorem one_0 : One w (((w.alloc (.cells #[.int .i64 y] 3)).alloc (.cells #[.int .i64 x] 3)).alloc (.cells #[.slice (some ⟨w.heap.size, 0, none⟩) 1 1, .slice (some ⟨w.heap.size + 1, 0, none⟩) 1 1, .slice none 0 0] 25)).drew (w.heap.size + 1 + 1) (w.heap.size) (w.heap.size + 1) y x none 0 0 :=
  ⟨(bel_al (bel_al (bel_alloc1 w _) _) _).drew, by omega, by omega, by omega, (by have h := Blk.new ((w.alloc (.cells #[.int .i64 y] 3)).alloc (.cells #[.int .i64 x] 3)) #[.slice (some ⟨w.heap.size, 0, none⟩) 1 1, .slice (some ⟨w.heap.size + 1, 0, none⟩) 1 1, .slice none 0 0] 25; have h := h; (try simp only [World.size_alloc] at h); exact h), (by have h := Blk.new w #[.int .i64 y] 3; have h := ((h.alloc (.cells #[.int .i64 x] 3)).alloc (.cells #[.slice (some ⟨w.heap.size, 0, none⟩) 1 1, .slice (some ⟨w.heap.size + 1, 0, none⟩) 1 1, .slice none 0 0] 25)); (try simp only [World.size_alloc] at h); exact h), (by have h := Blk.new (w.alloc (.cells #[.int .i64 y] 3)) #[.int .i64 x] 3; have h := (h.alloc (.cells #[.slice (some ⟨w.heap.size, 0, none⟩) 1 1, .slice (some ⟨w.heap.size + 1, 0, none⟩) 1 1, .slice none 0 0] 25)); (try simp only [World.size_alloc] at h); exact h)⟩
theorem one_1 : One w (((w.alloc (.cells #[.int .i64 y] 3)).alloc (.cells #[.slice (some ⟨w.heap.size, 0, none⟩) 1 1, .slice (some ⟨w.heap.size + 1 + 1, 0, none⟩) 1 1, .slice none 0 0] 25)).alloc (.cells #[.int .i64 x] 3)).drew (w.heap.size + 1) (w.heap.size) (w.heap.size + 1 + 1) y x none 0 0 :=
  ⟨(bel_al (bel_al (bel_alloc1 w _) _) _).drew, by omega, by omega, by omega, (by have h := Blk.new (w.alloc (.cells #[.int .i64 y] 3)) #[.slice (some ⟨w.heap.size, 0, none⟩) 1 1, .slice (some ⟨w.heap.size + 1 + 1, 0, none⟩) 1 1, .slice none 0 0] 25; have h := (h.alloc (.cells #[.int .i64 x] 3)); (try simp only [World.size_alloc] at h); exact h), (by have h := Blk.new w #[.int .i64 y] 3; have h := ((h.alloc (.cells #[.slice (some ⟨w.heap.size, 0, none⟩) 1 1, .slice (some ⟨w.heap.size + 1 + 1, 0, none⟩) 1 1, .slice none 0 0] 25)).alloc (.cells #[.int .i64 x] 3)); (try simp only [World.size_alloc] at h); exact h), (by have h := Blk.new ((w.alloc (.cells #[.int .i64 y] 3)).alloc (.cells #[.slice (some ⟨w.heap.size, 0, none⟩) 1 1, .slice (some ⟨w.heap.size + 1 + 1, 0, none⟩) 1 1, .slice none 0 0] 25)) #[.int .i64 x] 3; have h := h; (try simp only [World.size_alloc] at h); exact h)⟩
theorem one_2 : One w (((w.alloc (.cells #[.int .i64 x] 3)).alloc (.cells #[.int .i64 y] 3)).alloc (.cells #[.slice (some ⟨w.heap.size + 1, 0, none⟩) 1 1, .slice (some ⟨w.heap.size, 0, none⟩) 1 1, .slice none 0 0] 25)).drew (w.heap.size + 1 + 1) (w.heap.size + 1) (w.heap.size) y x none 0 0 :=
  ⟨(bel_al (bel_al (bel_alloc1 w _) _) _).drew, by omega, by omega, by omega, (by have h := Blk.new ((w.alloc (.cells #[.int .i64 x] 3)).alloc (.cells #[.int .i64 y] 3)) #[.slice (some ⟨w.heap.size + 1, 0, none⟩) 1 1, .slice (some ⟨w.heap.size, 0, none⟩) 1 1, .slice none 0 0] 25; have h := h; (try simp only [World.size_alloc] at h); exact h), (by have h := Blk.new (w.alloc (.cells #[.int .i64 x] 3)) #[.int .i64 y] 3; have h := (h.alloc (.cells #[.slice (some ⟨w.heap.size + 1, 0, none⟩) 1 1, .slice (some ⟨w.heap.size, 0, none⟩) 1 1, .slice none 0 0] 25)); (try simp only [World.size_alloc] at h); exact h), (by have h := Blk.new w #[.int .i64 x] 3; have h := ((h.alloc (.cells #[.int .i64 y] 3)).alloc (.cells #[.slice (some ⟨w.heap.size + 1, 0, none⟩) 1 1, .slice (some ⟨w.heap.size, 0, none⟩) 1 1, .slice none 0 0] 25)); (try simp only [World.size_alloc] at h); exact h)⟩
theorem one_3 : One w (((w.alloc (.cells #[.int .i64 x] 3)).alloc (.cells #[.slice (some ⟨w.heap.size + 1 + 1, 0, none⟩) 1 1, .slice (some ⟨w.heap.size, 0, none⟩) 1 1, .slice none 0 0] 25)).alloc (.cells #[.int .i64 y] 3)).drew (w.heap.size + 1) (w.heap.size + 1 + 1) (w.heap.size) y x none 0 0 :=
  ⟨(bel_al (bel_al (bel_alloc1 w _) _) _).drew, by omega, by omega, by omega, (by have h := Blk.new (w.alloc (.cells #[.int .i64 x] 3)) #[.slice (some ⟨w.heap.size + 1 + 1, 0, none⟩) 1 1, .slice (some ⟨w.heap.size, 0, none⟩) 1 1, .slice none 0 0] 25; have h := (h.alloc (.cells #[.int .i64 y] 3)); (try simp only [World.size_alloc] at h); exact h), (by have h := Blk.new ((w.alloc (.cells #[.int .i64 x] 3)).alloc (.cells #[.slice (some ⟨w.heap.size + 1 + 1, 0, none⟩) 1 1, .slice (some ⟨w.heap.size, 0, none⟩) 1 1, .slice none 0 0] 25)) #[.int .i64 y] 3; have h := h; (try simp only [World.size_alloc] at h); exact h), (by have h := Blk.new w #[.int .i64 x] 3; have h := ((h.alloc (.cells #[.slice (some ⟨w.heap.size + 1 + 1, 0, none⟩) 1 1, .slice (some ⟨w.heap.size, 0, none⟩) 1 1, .slice none 0 0] 25)).alloc (.cells #[.int .i64 y] 3)); (try simp only [World.size_alloc] at h); exact h)⟩
theorem one_4 : One w (((w.alloc (.cells #[.slice (some ⟨w.heap.size + 1, 0, none⟩) 1 1, .slice (some ⟨w.heap.size + 1 + 1, 0, none⟩) 1 1, .slice none 0 0] 25)).alloc (.cells #[.int .i64 y] 3)).alloc (.cells #[.int .i64 x] 3)).drew (w.heap.size) (w.heap.size + 1) (w.heap.size + 1 + 1) y x none 0 0 :=
  ⟨(bel_al (bel_al (bel_alloc1 w _) _) _).drew, by omega, by omega, by omega, (by have h := Blk.new w #[.slice (some ⟨w.heap.size + 1, 0, none⟩) 1 1, .slice (some ⟨w.heap.size + 1 + 1, 0, none⟩) 1 1, .slice none 0 0] 25; have h := ((h.alloc (.cells #[.int .i64 y] 3)).alloc (.cells #[.int .i64 x] 3)); (try simp only [World.size_alloc] at h); exact h), (by have h := Blk.new (w.alloc (.cells #[.slice (some ⟨w.heap.size + 1, 0, none⟩) 1 1, .slice (some ⟨w.heap.size + 1 + 1, 0, none⟩) 1 1, .slice none 0 0] 25)) #[.int .i64 y] 3; have h := (h.alloc (.cells #[.int .i64 x] 3)); (try simp only [World.size_alloc] at h); exact h), (by have h := Blk.new ((w.alloc (.cells #[.slice (some ⟨w.heap.size + 1, 0, none⟩) 1 1, .slice (some ⟨w.heap.size + 1 + 1, 0, none⟩) 1 1, .slice none 0 0] 25)).alloc (.cells #[.int .i64 y] 3)) #[.int .i64 x] 3; have h := h; (try simp only [World.size_alloc] at h); exact h)⟩
theorem one_5 : One w (((w.alloc (.cells #[.slice (some ⟨w.heap.size + 1 + 1, 0, none⟩) 1 1, .slice (some ⟨w.heap.size + 1, 0, none⟩) 1 1, .slice none 0 0] 25)).alloc (.cells #[.int .i64 x] 3)).alloc (.cells #[.int .i64 y] 3)).drew (w.heap.size) (w.heap.size + 1 + 1) (w.heap.size + 1) y x none 0 0 :=
  ⟨(bel_al (bel_al (bel_alloc1 w _) _) _).drew, by omega, by omega, by omega, (by have h := Blk.new w #[.slice (some ⟨w.heap.size + 1 + 1, 0, none⟩) 1 1, .slice (some ⟨w.heap.size + 1, 0, none⟩) 1 1, .slice none 0 0] 25; have h := ((h.alloc (.cells #[.int .i64 x] 3)).alloc (.cells #[.int .i64 y] 3)); (try simp only [World.size_alloc] at h); exact h), (by have h := Blk.new ((w.alloc (.cells #[.slice (some ⟨w.heap.size + 1 + 1, 0, none⟩) 1 1, .slice (some ⟨w.heap.size + 1, 0, none⟩) 1 1, .slice none 0 0] 25)).alloc (.cells #[.int .i64 x] 3)) #[.int .i64 y] 3; have h := h; (try simp only [World.size_alloc] at h); exact h), (by have h := Blk.new (w.alloc (.cells #[.slice (some ⟨w.heap.size + 1 + 1, 0, none⟩) 1 1, .slice (some ⟨w.heap.size + 1, 0, none⟩) 1 1, .slice none 0 0] 25)) #[.int .i64 x] 3; have h := (h.alloc (.cells #[.int .i64 y] 3)); (try simp only [World.size_alloc] at h); exact h)⟩
end
theorem one_put {w wr : World} {bo b1 b2 : Nat} {y x : Int} {q : Option Addr} {mq cq : Nat} {o1 : Obj} {t : TypeId} {F X : Int} (h : One w wr bo b1 b2 y x q mq cq) (hF : i64B F) (hX : i64B X) :
    Hid (TiersV (((wr.setCell ⟨bo, 2, none⟩ (.slice (some ⟨wr.heap.size + 1, 0, none⟩) 1 1)).alloc o1).alloc (.cells #[.int .i64 F, .int .i64 X] t)).drew (some ⟨wr.heap.size + 1, 0, none⟩) 1 (some ((F, X) : Tr)).toList)
    ∧ Hid (One w (((wr.setCell ⟨bo, 2, none⟩ (.slice (some ⟨wr.heap.size + 1, 0, none⟩) 1 1)).alloc o1).alloc (.cells #[.int .i64 F, .int .i64 X] t)).drew bo b1 b2 y x (some ⟨wr.heap.size + 1, 0, none⟩) 1 1) := by
  have h0 : One w (wr.setCell ⟨bo, 2, none⟩ (.slice (some ⟨wr.heap.size + 1, 0, none⟩) 1 1)) bo b1 b2 y x (some ⟨wr.heap.size + 1, 0, none⟩) 1 1 := h.put
  have hs : (wr.setCell ⟨bo, 2, none⟩ (.slice (some ⟨wr.heap.size + 1, 0, none⟩) 1 1)).heap.size = wr.heap.size := by simp [World.setCell]
  generalize wr.setCell ⟨bo, 2, none⟩ (.slice (some ⟨wr.heap.size + 1, 0, none⟩) 1 1) = V at h0 hs ⊢
  rw [← hs] at h0 ⊢
  have h2 := (h0.below (bel_alloc1 V o1)).below (bel_alloc1 (V.alloc o1) (.cells #[.int .i64 F, .int .i64 X] t))
  have hb := Blk.new (V.alloc o1) #[.int .i64 F, .int .i64 X] t
  simp only [World.size_alloc] at hb
  have hd : Below ((V.alloc o1).alloc (.cells #[.int .i64 F, .int .i64 X] t)).heap.size ((V.alloc o1).alloc (.cells #[.int .i64 F, .int .i64 X] t)) ((V.alloc o1).alloc (.cells #[.int .i64 F, .int .i64 X] t)).drew := (Below.refl _ _).drew
  exact ⟨Lib.hid ((tierNew hb hF hX).below hd), Lib.hid (h2.below hd)⟩
end Go.Proofs.Yticaeecfhfjjeaa
