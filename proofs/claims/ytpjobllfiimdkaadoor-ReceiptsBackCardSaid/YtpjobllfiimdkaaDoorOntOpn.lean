/- How a return address opens, a cipher, two ints, three ints. -/
import Derived.Test.YtpjobllfiimdkaaDoorLstOpn
import Derived.Test.YtpjobllfiimdkaaDoorOntZB
import Derived.Test.YtpjobllfiimdkaaDoorArr
namespace Go.Proofs.YtpjobllfiimdkaaDoor
open Go.ChangeShapes Go.WideShapes Go.ChangeAt Go.RowKit Go.WideElems Go.Deep Go.Joins
set_option linter.unusedVariables false
set_option linter.unusedSimpArgs false
section
variable {H : Type} {enc : TypeId × Value → H} {w : World} {base : Nat} {spare : Nat → Bool} {held : Bool}
set_option maxRecDepth 100000 in
theorem cip_cells {fuel : Nat} {v0 v1 : Value} {x : DataW H × List MemPlace} (h : DataW.trod enc Tryd.prog w base spare held fuel 31 [v0, v1] = some x) : ∃ e s : Int, v0 = .int .i64 e ∧ v1 = .int .i64 s := by
  obtain ⟨g0, g1, hG, s0, s1, o0, o1⟩ : ∃ g0 g1 : Field, Tryd.prog.underlying 31 = some (.struct #[g0, g1]) ∧ g0.type = 3 ∧ g1.type = 3 ∧ g0.offset = 0 ∧ g1.offset = 1 := ⟨_, _, Tryd.underlying31, rfl, rfl, rfl, rfl⟩
  have ci : Tryd.prog.cellsOf 3 = 1 := by kernel_rfl
  obtain ⟨xs, k, hk, hxy, _, hxl, hff⟩ := DataW.trod_struct hG h
  match xs, hxl with
  | [y0, y1], _ =>
    have t0 := hff 0 g0 rfl
    have t1 := hff 1 g1 rfl
    simp [o0, o1, s0, s1, ci] at t0 t1
    obtain ⟨n0, q0, _, _⟩ := DataW.trod_int Tryd.underlying3 t0
    obtain ⟨n1, q1, _, _⟩ := DataW.trod_int Tryd.underlying3 t1
    simp at q0 q1
    exact ⟨n0, n1, q0, q1⟩
set_option maxRecDepth 100000 in
theorem open_cip {r : Reach} {b0 : Nat} {v : Value} {d : DataW H} {ps : List MemPlace}
    (hval : Value.okWide Tryd.prog w r b0 31 v) (hd : DataW.Trod enc Tryd.prog w base spare held 31 v d ps) : ∃ a b : Int, v = .agg #[.int .i64 a, .int .i64 b] := by
  have hU : ∃ fs, Tryd.prog.underlying 31 = some (.struct fs) := ⟨_, Tryd.underlying31⟩
  obtain ⟨fs, hU⟩ := hU
  have cT : Tryd.prog.cellsOf 31 = 2 := by kernel_rfl
  simp only [Value.okWide, hU] at hval
  obtain ⟨cs, rfl, hsz, _⟩ := hval
  obtain ⟨fuel, hf⟩ := hd
  obtain ⟨l⟩ := cs
  match l, hsz.trans cT with
  | [x, y], _ =>
    obtain ⟨a, b, rfl, rfl⟩ := cip_cells (by simpa [Value.cells] using hf)
    exact ⟨a, b, rfl⟩
set_option maxRecDepth 100000 in
theorem open_ret {r : Reach} {b0 : Nat} {v : Value} {d : DataW H} {ps : List MemPlace}
    (hval : Value.okWide Tryd.prog w r b0 35 v) (hd : DataW.Trod enc Tryd.prog w base spare held 35 v d ps) : ∃ (l k a b : Int) (zs : List Int), v = .agg (rtv l k a b zs).toArray ∧ zs.length = 32 ∧ ∀ z ∈ zs, 0 ≤ z ∧ z ≤ 255 := by
  obtain ⟨f0, f1, f2, f3, hU, o0, o1, o2, o3, t0, t1, t2, t3⟩ : ∃ f0 f1 f2 f3 : Field, Tryd.prog.underlying 35 = some (.struct #[f0, f1, f2, f3]) ∧ f0.offset = 0 ∧ f1.offset = 1 ∧ f2.offset = 2 ∧ f3.offset = 4 ∧ f0.type = 3 ∧ f1.type = 3 ∧ f2.type = 31 ∧ f3.type = 33 := ⟨_, _, _, _, Tryd.underlying35, rfl, rfl, rfl, rfl, rfl, rfl, rfl, rfl⟩
  have cD : Tryd.prog.cellsOf 33 = 32 := by kernel_rfl
  have cI : Tryd.prog.cellsOf 3 = 1 := by kernel_rfl
  have cC : Tryd.prog.cellsOf 31 = 2 := by kernel_rfl
  have cT : Tryd.prog.cellsOf 35 = 36 := by kernel_rfl
  simp only [Value.okWide, hU] at hval
  obtain ⟨cs, rfl, hsz, _⟩ := hval
  obtain ⟨fuel, hf⟩ := hd
  obtain ⟨l⟩ := cs
  have hl : l.length = 36 := hsz.trans cT
  obtain ⟨xs, k, hk, hxy, _, hxl, hff⟩ := DataW.trod_struct hU hf
  match xs, hxl with
  | [y0, y1, y2, y3], _ =>
    have u0 := hff 0 f0 rfl
    have u1 := hff 1 f1 rfl
    have u2 := hff 2 f2 rfl
    have u3 := hff 3 f3 rfl
    have hcl : (Value.agg ⟨l⟩).cells.toList = l := by simp [Value.cells]
    rw [hcl, o0, t0, cI] at u0
    rw [hcl, o1, t1, cI] at u1
    rw [hcl, o2, t2, cC] at u2
    rw [hcl, o3, t3, cD] at u3
    match l, hl with
    | x0 :: x1 :: x2 :: x3 :: rs, hl =>
      have hr : rs.length = 32 := by simpa using hl
      have e2 : List.take 2 (List.drop 2 (x0 :: x1 :: x2 :: x3 :: rs)) = [x2, x3] := rfl
      have e3 : List.take 32 (List.drop 4 (x0 :: x1 :: x2 :: x3 :: rs)) = rs := by
        show List.take 32 rs = rs
        rw [List.take_of_length_le (by omega)]
      rw [e2] at u2
      rw [e3] at u3
      obtain ⟨n, q0, _, _⟩ := DataW.trod_int Tryd.underlying3 u0
      obtain ⟨m, q1, _, _⟩ := DataW.trod_int Tryd.underlying3 u1
      obtain ⟨a, b, rfl, rfl⟩ := cip_cells u2
      obtain ⟨zs, rfl, hzl, hzr⟩ := dig_cells u3 hr
      simp at q0 q1
      subst q0 q1
      exact ⟨n, m, a, b, zs, rfl, hzl, hzr⟩
set_option maxRecDepth 100000 in
theorem open_arr2 {P : Program} {r : Reach} {b0 : Nat} {t e : TypeId} {k : IntKind} {v : Value} {d : DataW H} {ps : List MemPlace} (ht : P.underlying t = some (.array 2 e)) (he : P.underlying e = some (.int k)) (hc : P.cellsOf e = 1) (hcT : P.cellsOf t = 2)
    (hval : Value.okWide P w r b0 t v) (hd : DataW.Trod enc P w base spare held t v d ps) :
    ∃ n0 n1, v = .agg #[.int k n0, .int k n1] ∧ (Lit.int k n0).wf = true ∧ (Lit.int k n1).wf = true := by
  simp only [Value.okWide, ht] at hval
  obtain ⟨cs, rfl, hsz, _⟩ := hval
  obtain ⟨fuel, hf⟩ := hd
  obtain ⟨l⟩ := cs
  match l, hsz.trans hcT with
  | [c0, c1], _ =>
    obtain ⟨xs, m, _, _, _, hxl, hi⟩ := DataW.trod_array ht hf
    rw [hc] at hi
    have h0 := hi 0 (by omega); have h1 := hi 1 (by omega)
    match xs, hxl with
    | [x0, x1], _ =>
      obtain ⟨n0, rfl, w0⟩ := int_of_trod he (by simpa [Value.cells] using h0)
      obtain ⟨n1, rfl, w1⟩ := int_of_trod he (by simpa [Value.cells] using h1)
      exact ⟨n0, n1, rfl, w0, w1⟩
end
end Go.Proofs.YtpjobllfiimdkaaDoor
