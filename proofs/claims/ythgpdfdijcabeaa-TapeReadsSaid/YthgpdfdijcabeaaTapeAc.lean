/- A head that comes in, opened. -/
import Derived.Test.YthgpdfdijcabeaaTapeAb
import Derived.Test.YthgpdfdijcabeaaLawEnd
import Derived.Test.YthgpdfdijcabeaaLawEndRows
import Derived.OpenShut
import Derived.Lib.SmallJoins
namespace Go.Proofs.Ythgpdfdijcabeaa
open Go.ChangeShapes Go.WideShapes Go.ChangeAt Go.RowKit Go.Joins
set_option maxRecDepth 100000

theorem cellsHead : Try.prog.cellsOf 35 = 3 := by kernel_rfl
section
variable {H : Type} {enc : TypeId × Value → H} {w : World} {base : Nat} {spare : Nat → Bool} {held : Bool}
theorem open_head {r : Reach} {b0 : Nat} {v : Value} {d : DataW H} {p : List MemPlace} (hv : Value.okWide Try.prog w r b0 35 v)
    (h : DataW.Trod enc Try.prog w base spare held 35 v d p) :
    ∃ s n u : Int, v = headV s n u ∧ 0 ≤ u ∧ u < 4294967296 := by
  obtain ⟨c0, c1, c2, y0, y1, y2, m, rfl, rfl, rfl, h0, h1, h2⟩ := open_agg3 Try.underlying35 (by kernel_rfl) cellsHead hv h
  obtain ⟨k, e0, _, _⟩ := DataW.trod_int Try.underlying3 h0
  obtain ⟨y, e1, _, _⟩ := DataW.trod_int Try.underlying3 h1
  obtain ⟨i, e2, _, wi⟩ := DataW.trod_int Try.underlying33 h2
  simp at e0 e1 e2
  subst e0 e1 e2
  obtain ⟨x, hx⟩ := word_of wi
  have := x.isLt
  exact ⟨k, y, i, rfl, by omega, by omega⟩
end
end Go.Proofs.Ythgpdfdijcabeaa
