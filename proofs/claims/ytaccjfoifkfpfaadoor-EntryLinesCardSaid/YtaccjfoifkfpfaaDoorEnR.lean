/- A row's numbers, as they come in, are ints. -/
import Derived.Test.YtaccjfoifkfpfaaDoorEnF
namespace Go.Proofs.YtaccjfoifkfpfaaDoor
open Go.ChangeShapes Go.WideShapes Go.ChangeAt Go.RowKit Go.Joins Go.Deep
set_option maxRecDepth 100000
def IntB (q : Int) : Prop := -9223372036854775808 ≤ q ∧ q ≤ 9223372036854775807
theorem intB_of {q : Int} (h : (Lit.int .i64 q).wf = true) : IntB q := by
  have h2 : (decide (IntKind.i64.min ≤ q) && decide (q ≤ IntKind.i64.max)) = true := h
  rw [Bool.and_eq_true, decide_eq_true_eq, decide_eq_true_eq] at h2
  exact h2
section
variable {H : Type} {enc : TypeId × Value → H} {W : World} {base : Nat} {sp : Nat → Bool} {held : Bool}
theorem rowNums {fuel : Nat} {cs : List Value} {x : DataW H × List MemPlace} (h : DataW.trod enc Tryd.prog W base sp held fuel 25 cs = some x) (hl : cs.length = 17) :
    ∃ q6 q9 q10 q11 : Int, (cs[10]? = some (.int .i64 q6) ∧ cs[13]? = some (.int .i64 q9) ∧ cs[14]? = some (.int .i64 q10) ∧ cs[15]? = some (.int .i64 q11)) ∧ IntB q6 ∧ IntB q9 ∧ IntB q10 ∧ IntB q11 := by
  match cs, hl with
  | [c0, c1, c2, c3, c4, c5, c6, c7, c8, c9, c10, c11, c12, c13, c14, c15, c16], _ =>
    obtain ⟨y0, y1, y2, y3, y4, y5, y6, y7, y8, y9, y10, y11, y12, n, hzs, _, h0, h1, h2, h3, h4, h5, h6, h7, h8, h9, h10, h11, h12⟩ := trod_struct13 Tryd.underlying25 h
    have hcint : Tryd.prog.cellsOf 3 = 1 := by kernel_rfl
    obtain ⟨q6, e6, _, b6⟩ := DataW.trod_int Tryd.underlying3 h6
    rw [hcint] at e6
    obtain ⟨q9, e9, _, b9⟩ := DataW.trod_int Tryd.underlying3 h9
    rw [hcint] at e9
    obtain ⟨q10, e10, _, b10⟩ := DataW.trod_int Tryd.underlying3 h10
    rw [hcint] at e10
    obtain ⟨q11, e11, _, b11⟩ := DataW.trod_int Tryd.underlying3 h11
    rw [hcint] at e11
    simp at e6 e9 e10 e11
    subst e6
    subst e9
    subst e10
    subst e11
    exact ⟨q6, q9, q10, q11, ⟨rfl, rfl, rfl, rfl⟩, intB_of b6, intB_of b9, intB_of b10, intB_of b11⟩
theorem rowB_of {v : Value} {d : DataW H} {p : List MemPlace} (x : RowV) (hv : v = .agg (rowA x))
    (h : DataW.Trod enc Tryd.prog W base sp held 25 v d p) : RowB x := by
  subst hv
  obtain ⟨fuel, hf⟩ := h
  obtain ⟨q6, q9, q10, q11, ⟨e6, e9, e10, e11⟩, b6, b9, b10, b11⟩ := rowNums (cs := (rowA x).toList) (by simpa [Value.cells] using hf) rfl
  obtain rfl : x.rate = q6 := by have := Option.some.inj ((show (rowA x).toList[10]? = some (.int .i64 x.rate) from rfl).symm.trans e6); injection this
  obtain rfl : x.base = q9 := by have := Option.some.inj ((show (rowA x).toList[13]? = some (.int .i64 x.base) from rfl).symm.trans e9); injection this
  obtain rfl : x.tax = q10 := by have := Option.some.inj ((show (rowA x).toList[14]? = some (.int .i64 x.tax) from rfl).symm.trans e10); injection this
  obtain rfl : x.deduct = q11 := by have := Option.some.inj ((show (rowA x).toList[15]? = some (.int .i64 x.deduct) from rfl).symm.trans e11); injection this
  intro k
  match k with
  | 0 => exact b6
  | 1 => exact b9
  | 2 => exact b10
  | 3 =>
    show IntB (owedV x)
    unfold owedV
    split
    · exact b10
    · exact ⟨by decide, by decide⟩
  | _ + 4 => exact b11
end
end Go.Proofs.YtaccjfoifkfpfaaDoor
