/- What a treatment hangs on, as it comes in. -/
import Derived.Test.YtdpafndejobbjaaDocA
namespace Go.Proofs.Ytdpafndejobbjaa
open Go.ChangeShapes Go.WideShapes Go.ChangeAt Go.RowKit Go.Joins Go.Deep
set_option maxRecDepth 100000
section
variable {H : Type} {enc : TypeId × Value → H} {W : World} {base : Nat} {sp : Nat → Bool} {held : Bool}
structure CaseV where
  sale : Bool
  supply : Int
  exempt : Bool
  start : Int
  goal : Int
  party : Int
  place : Int
  business : Bool
  over : Bool
def CaseVOk (_ : World) (_ : CaseV) : Prop := True
theorem cellsOfCaseV : Try.prog.cellsOf 37 = 9 := by kernel_rfl
theorem ofCaseV {fuel : Nat} {cs : List Value} {x : DataW H × List MemPlace} (h : DataW.trod enc Try.prog W base sp held fuel 37 cs = some x) (hz : Fits Try.prog 37 x.1) (hl : cs.length = 9) : ∃ o : CaseV, cs = [.bool o.sale, .int .i64 o.supply, .bool o.exempt, .int .i64 o.start, .int .i64 o.goal, .int .i64 o.party, .int .i64 o.place, .bool o.business, .bool o.over] ∧ CaseVOk W o := by
  match cs, hl with
  | [c0, c1, c2, c3, c4, c5, c6, c7, c8], _ =>
    obtain ⟨y0, y1, y2, y3, y4, y5, y6, y7, y8, n, hzs, _, h0, h1, h2, h3, h4, h5, h6, h7, h8⟩ := trod_struct9 Try.underlying37 h
    obtain ⟨z0, z1, z2, z3, z4, z5, z6, z7, z8⟩ := hzs hz
    have hcint : Try.prog.cellsOf 3 = 1 := by kernel_rfl
    have hcstr : Try.prog.cellsOf 9 = 1 := by kernel_rfl
    have hcbool : Try.prog.cellsOf 4 = 1 := by kernel_rfl
    obtain ⟨q0, e0, _⟩ := DataW.trod_bool Try.underlying4 h0
    rw [hcbool] at e0
    obtain ⟨q1, e1, _, _⟩ := DataW.trod_int Try.underlying3 h1
    rw [hcint] at e1
    obtain ⟨q2, e2, _⟩ := DataW.trod_bool Try.underlying4 h2
    rw [hcbool] at e2
    obtain ⟨q3, e3, _, _⟩ := DataW.trod_int Try.underlying3 h3
    rw [hcint] at e3
    obtain ⟨q4, e4, _, _⟩ := DataW.trod_int Try.underlying3 h4
    rw [hcint] at e4
    obtain ⟨q5, e5, _, _⟩ := DataW.trod_int Try.underlying3 h5
    rw [hcint] at e5
    obtain ⟨q6, e6, _, _⟩ := DataW.trod_int Try.underlying3 h6
    rw [hcint] at e6
    obtain ⟨q7, e7, _⟩ := DataW.trod_bool Try.underlying4 h7
    rw [hcbool] at e7
    obtain ⟨q8, e8, _⟩ := DataW.trod_bool Try.underlying4 h8
    rw [hcbool] at e8
    simp at e0 e1 e2 e3 e4 e5 e6 e7 e8
    subst e0
    subst e1
    subst e2
    subst e3
    subst e4
    subst e5
    subst e6
    subst e7
    subst e8
    exact ⟨⟨q0, q1, q2, q3, q4, q5, q6, q7, q8⟩, rfl, trivial⟩
theorem openCaseV {r : Reach} {b0 : Nat} {v : Value} {d : DataW H} {p : List MemPlace} (hv : Value.okWide Try.prog W r b0 37 v)
    (h : DataW.Trod enc Try.prog W base sp held 37 v d p) (hz : Fits Try.prog 37 d) : ∃ x : CaseV, v = .agg #[.bool x.sale, .int .i64 x.supply, .bool x.exempt, .int .i64 x.start, .int .i64 x.goal, .int .i64 x.party, .int .i64 x.place, .bool x.business, .bool x.over] ∧ CaseVOk W x := by
  obtain ⟨cs, rfl, hsz⟩ := okWide_struct Try.underlying37 hv
  obtain ⟨fuel, hf⟩ := h
  obtain ⟨o, ho, hw⟩ := ofCaseV (cs := cs.toList) (by simpa [Value.cells] using hf) hz (by rw [Array.length_toList, hsz, cellsOfCaseV])
  refine ⟨o, ?_, hw⟩
  congr 1
  apply Array.ext'
  rw [ho]
end
end Go.Proofs.Ytdpafndejobbjaa
