/- Commands, as they come in. -/
import Derived.Test.YtjanhgekocpobaaDocA
namespace Go.Proofs.Ytjanhgekocpobaa
open Go.ChangeShapes Go.WideShapes Go.ChangeAt Go.RowKit Go.Joins Go.Deep
set_option maxRecDepth 100000
theorem trod_struct12 {P : Program} {H : Type} {enc : TypeId × Value → H} {w : World} {base : Nat} {spare : Nat → Bool} {held : Bool} {t : TypeId} {f0 f1 f2 f3 f4 f5 f6 f7 f8 f9 f10 f11 : Field} {fuel : Nat} {cs : List Value} {x : DataW H × List MemPlace} (ht : P.underlying t = some (.struct #[f0, f1, f2, f3, f4, f5, f6, f7, f8, f9, f10, f11])) (h : DataW.trod enc P w base spare held fuel t cs = some x) :
    ∃ y0 y1 y2 y3 y4 y5 y6 y7 y8 y9 y10 y11 n, (Fits P t x.1 → Fits P f0.type y0.1 ∧ Fits P f1.type y1.1 ∧ Fits P f2.type y2.1 ∧ Fits P f3.type y3.1 ∧ Fits P f4.type y4.1 ∧ Fits P f5.type y5.1 ∧ Fits P f6.type y6.1 ∧ Fits P f7.type y7.1 ∧ Fits P f8.type y8.1 ∧ Fits P f9.type y9.1 ∧ Fits P f10.type y10.1 ∧ Fits P f11.type y11.1) ∧ cs.length = P.cellsOf t ∧ DataW.trod enc P w base spare held n f0.type ((cs.drop f0.offset).take (P.cellsOf f0.type)) = some y0 ∧ DataW.trod enc P w base spare held n f1.type ((cs.drop f1.offset).take (P.cellsOf f1.type)) = some y1 ∧ DataW.trod enc P w base spare held n f2.type ((cs.drop f2.offset).take (P.cellsOf f2.type)) = some y2 ∧ DataW.trod enc P w base spare held n f3.type ((cs.drop f3.offset).take (P.cellsOf f3.type)) = some y3 ∧ DataW.trod enc P w base spare held n f4.type ((cs.drop f4.offset).take (P.cellsOf f4.type)) = some y4 ∧ DataW.trod enc P w base spare held n f5.type ((cs.drop f5.offset).take (P.cellsOf f5.type)) = some y5 ∧ DataW.trod enc P w base spare held n f6.type ((cs.drop f6.offset).take (P.cellsOf f6.type)) = some y6 ∧ DataW.trod enc P w base spare held n f7.type ((cs.drop f7.offset).take (P.cellsOf f7.type)) = some y7 ∧ DataW.trod enc P w base spare held n f8.type ((cs.drop f8.offset).take (P.cellsOf f8.type)) = some y8 ∧ DataW.trod enc P w base spare held n f9.type ((cs.drop f9.offset).take (P.cellsOf f9.type)) = some y9 ∧ DataW.trod enc P w base spare held n f10.type ((cs.drop f10.offset).take (P.cellsOf f10.type)) = some y10 ∧ DataW.trod enc P w base spare held n f11.type ((cs.drop f11.offset).take (P.cellsOf f11.type)) = some y11 := by
  obtain ⟨xs, n, _, rfl, hl, hlen, hf⟩ := DataW.trod_struct ht h
  match xs, hlen with
  | [y0, y1, y2, y3, y4, y5, y6, y7, y8, y9, y10, y11], _ => exact ⟨y0, y1, y2, y3, y4, y5, y6, y7, y8, y9, y10, y11, n, fun hz => ⟨hz.part (i := 0) ht rfl rfl, hz.part (i := 1) ht rfl rfl, hz.part (i := 2) ht rfl rfl, hz.part (i := 3) ht rfl rfl, hz.part (i := 4) ht rfl rfl, hz.part (i := 5) ht rfl rfl, hz.part (i := 6) ht rfl rfl, hz.part (i := 7) ht rfl rfl, hz.part (i := 8) ht rfl rfl, hz.part (i := 9) ht rfl rfl, hz.part (i := 10) ht rfl rfl, hz.part (i := 11) ht rfl rfl⟩, hl, by simpa using hf 0 f0 rfl, by simpa using hf 1 f1 rfl, by simpa using hf 2 f2 rfl, by simpa using hf 3 f3 rfl, by simpa using hf 4 f4 rfl, by simpa using hf 5 f5 rfl, by simpa using hf 6 f6 rfl, by simpa using hf 7 f7 rfl, by simpa using hf 8 f8 rfl, by simpa using hf 9 f9 rfl, by simpa using hf 10 f10 rfl, by simpa using hf 11 f11 rfl⟩
section
variable {H : Type} {enc : TypeId × Value → H} {W : World} {base : Nat} {sp : Nat → Bool} {held : Bool}
theorem ofPerV {fuel : Nat} {cs : List Value} {x : DataW H × List MemPlace} (h : DataW.trod enc Try.prog W base sp held fuel 52 cs = some x) (hl : cs.length = 3  ) : ∃ o : Int × Int × Int, cs = [.int .i64 o.1, .int .i64 o.2.1, .int .i64 o.2.2] ∧ (True) := by
  match cs, hl with
  | [c0, c1, c2], _ =>
    obtain ⟨y0, y1, y2, n, _, _, h0, h1, h2⟩ := trod_struct3 Try.underlying52 h
    have hcint : Try.prog.cellsOf 3 = 1 := by kernel_rfl
    obtain ⟨q0, e0, _, _⟩ := DataW.trod_int Try.underlying3 h0
    rw [hcint] at e0
    obtain ⟨q1, e1, _, _⟩ := DataW.trod_int Try.underlying3 h1
    rw [hcint] at e1
    obtain ⟨q2, e2, _, _⟩ := DataW.trod_int Try.underlying3 h2
    rw [hcint] at e2
    simp at e0 e1 e2
    subst e0
    subst e1
    subst e2
    exact ⟨(q0, q1, q2), rfl, trivial⟩
structure CmdV where
  kind : Int
  state : ByteArray
  text : ByteArray
  category : Int
  bp : Int
  from_ : Int
  until_ : Int
  num : Int
  den : Int
  index : Int
  pk : Int
  py : Int
  pi : Int
  id : ByteArray
  sale : Bool
  credit : Bool
  refers : ByteArray
  day : Int
  country : ByteArray
  number : ByteArray
  currency : ByteArray
  linesA : Option Addr
  lines : List LineV
  linesC : Nat
def CmdVOk (w : World) (d : CmdV) : Prop := d.state.size ≤ 140737488351232 ∧ d.text.size ≤ 140737488351232 ∧ d.id.size ≤ 140737488351232 ∧ d.refers.size ≤ 140737488351232 ∧ d.country.size ≤ 140737488351232 ∧ d.number.size ≤ 140737488351232 ∧ d.currency.size ≤ 140737488351232 ∧ RowLineV w d.linesA d.lines ∧ (d.linesA = none → d.lines = [] ∧ d.linesC = 0) ∧ d.lines.length ≤ d.linesC ∧ d.linesC ≤ maxLen ∧ (∀ r ∈ d.lines, r.2.2.1.size ≤ 140737488351232 ∧ r.2.2.2.1.size ≤ 140737488351232 ∧ r.2.2.2.2.1.size ≤ 140737488351232)
theorem cellsOfCmdV : Try.prog.cellsOf 54 = 22 := by kernel_rfl
theorem ofCmdV {fuel : Nat} {cs : List Value} {x : DataW H × List MemPlace} (h : DataW.trod enc Try.prog W base sp held fuel 54 cs = some x) (hz : Fits Try.prog 54 x.1) (hl : cs.length = 22) : ∃ o : CmdV, cs = [.int .i64 o.kind, .string o.state, .string o.text, .int .i64 o.category, .int .i64 o.bp, .int .i64 o.from_, .int .i64 o.until_, .int .i64 o.num, .int .i64 o.den, .int .i64 o.index, .int .i64 o.pk, .int .i64 o.py, .int .i64 o.pi, .string o.id, .bool o.sale, .bool o.credit, .string o.refers, .int .i64 o.day, .string o.country, .string o.number, .string o.currency, .slice o.linesA o.lines.length o.linesC] ∧ CmdVOk W o := by
  match cs, hl with
  | [c0, c1, c2, c3, c4, c5, c6, c7, c8, c9, c10, c11, c12, c13, c14, c15, c16, c17, c18, c19, c20, c21], _ =>
    obtain ⟨y0, y1, y2, y3, y4, y5, y6, y7, y8, y9, y10, y11, n, hzs, _, h0, h1, h2, h3, h4, h5, h6, h7, h8, h9, h10, h11⟩ := trod_struct12 Try.underlying54 h
    obtain ⟨z0, z1, z2, z3, z4, z5, z6, z7, z8, z9, z10, z11⟩ := hzs hz
    have hcint : Try.prog.cellsOf 3 = 1 := by kernel_rfl
    have hcstr : Try.prog.cellsOf 9 = 1 := by kernel_rfl
    have hcbool : Try.prog.cellsOf 4 = 1 := by kernel_rfl
    obtain ⟨q0, e0, _, _⟩ := DataW.trod_int Try.underlying3 h0
    rw [hcint] at e0
    obtain ⟨q1, e1, d1, _⟩ := DataW.trod_string Try.underlying9 h1
    rw [hcstr] at e1
    rw [d1] at z1
    obtain ⟨q2, e2, d2, _⟩ := DataW.trod_string Try.underlying9 h2
    rw [hcstr] at e2
    rw [d2] at z2
    obtain ⟨q3, e3, _, _⟩ := DataW.trod_int Try.underlying3 h3
    rw [hcint] at e3
    obtain ⟨q4, e4, _, _⟩ := DataW.trod_int Try.underlying3 h4
    rw [hcint] at e4
    obtain ⟨q5, e5, _, _⟩ := DataW.trod_int Try.underlying3 h5
    rw [hcint] at e5
    obtain ⟨q6, e6, _, _⟩ := DataW.trod_int Try.underlying3 h6
    rw [hcint] at e6
    obtain ⟨q7, e7, _, _⟩ := DataW.trod_int Try.underlying3 h7
    rw [hcint] at e7
    obtain ⟨q8, e8, _, _⟩ := DataW.trod_int Try.underlying3 h8
    rw [hcint] at e8
    obtain ⟨q9, e9, _, _⟩ := DataW.trod_int Try.underlying3 h9
    rw [hcint] at e9
    have hcs10 : Try.prog.cellsOf 52 = 3 := by kernel_rfl
    rw [hcs10] at h10
    obtain ⟨q10, e10, w10⟩ := ofPerV h10 (by simp)
    rw [cellsOfDocV] at h11
    obtain ⟨q11, e11, w11⟩ := ofDocV h11 z11 (by simp)
    simp at e0 e1 e2 e3 e4 e5 e6 e7 e8 e9 e10 e11
    subst e0
    subst e1
    subst e2
    subst e3
    subst e4
    subst e5
    subst e6
    subst e7
    subst e8
    subst e9
    obtain ⟨rfl, rfl, rfl⟩ := e10
    obtain ⟨rfl, rfl, rfl, rfl, rfl, rfl, rfl, rfl, rfl⟩ := e11
    exact ⟨⟨q0, q1, q2, q3, q4, q5, q6, q7, q8, q9, q10.1, q10.2.1, q10.2.2, q11.id, q11.sale, q11.credit, q11.refers, q11.day, q11.country, q11.number, q11.currency, q11.linesA, q11.lines, q11.linesC⟩, rfl, ⟨z1.text, z2.text, w11.1, w11.2.1, w11.2.2.1, w11.2.2.2.1, w11.2.2.2.2.1, w11.2.2.2.2.2.1, w11.2.2.2.2.2.2.1, w11.2.2.2.2.2.2.2.1, w11.2.2.2.2.2.2.2.2.1, w11.2.2.2.2.2.2.2.2.2⟩⟩
theorem openCmdV {r : Reach} {b0 : Nat} {v : Value} {d : DataW H} {p : List MemPlace} (hv : Value.okWide Try.prog W r b0 54 v)
    (h : DataW.Trod enc Try.prog W base sp held 54 v d p) (hz : Fits Try.prog 54 d) : ∃ x : CmdV, v = .agg #[.int .i64 x.kind, .string x.state, .string x.text, .int .i64 x.category, .int .i64 x.bp, .int .i64 x.from_, .int .i64 x.until_, .int .i64 x.num, .int .i64 x.den, .int .i64 x.index, .int .i64 x.pk, .int .i64 x.py, .int .i64 x.pi, .string x.id, .bool x.sale, .bool x.credit, .string x.refers, .int .i64 x.day, .string x.country, .string x.number, .string x.currency, .slice x.linesA x.lines.length x.linesC] ∧ CmdVOk W x := by
  obtain ⟨cs, rfl, hsz⟩ := okWide_struct Try.underlying54 hv
  obtain ⟨fuel, hf⟩ := h
  obtain ⟨o, ho, hw⟩ := ofCmdV (cs := cs.toList) (by simpa [Value.cells] using hf) hz (by rw [Array.length_toList, hsz, cellsOfCmdV])
  refine ⟨o, ?_, hw⟩
  congr 1
  apply Array.ext'
  rw [ho]
end
end Go.Proofs.Ytjanhgekocpobaa
