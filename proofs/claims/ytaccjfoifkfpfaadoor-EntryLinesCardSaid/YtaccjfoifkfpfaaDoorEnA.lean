/- Rows, as they come in. -/
import Derived.Test.YtaccjfoifkfpfaaDoorDocA
namespace Go.Proofs.YtaccjfoifkfpfaaDoor
open Go.ChangeShapes Go.WideShapes Go.ChangeAt Go.RowKit Go.Joins Go.Deep
set_option maxRecDepth 100000
theorem trod_struct13 {P : Program} {H : Type} {enc : TypeId × Value → H} {w : World} {base : Nat} {spare : Nat → Bool} {held : Bool} {t : TypeId} {f0 f1 f2 f3 f4 f5 f6 f7 f8 f9 f10 f11 f12 : Field} {fuel : Nat} {cs : List Value} {x : DataW H × List MemPlace} (ht : P.underlying t = some (.struct #[f0, f1, f2, f3, f4, f5, f6, f7, f8, f9, f10, f11, f12])) (h : DataW.trod enc P w base spare held fuel t cs = some x) :
    ∃ y0 y1 y2 y3 y4 y5 y6 y7 y8 y9 y10 y11 y12 n, (Fits P t x.1 → Fits P f0.type y0.1 ∧ Fits P f1.type y1.1 ∧ Fits P f2.type y2.1 ∧ Fits P f3.type y3.1 ∧ Fits P f4.type y4.1 ∧ Fits P f5.type y5.1 ∧ Fits P f6.type y6.1 ∧ Fits P f7.type y7.1 ∧ Fits P f8.type y8.1 ∧ Fits P f9.type y9.1 ∧ Fits P f10.type y10.1 ∧ Fits P f11.type y11.1 ∧ Fits P f12.type y12.1) ∧ cs.length = P.cellsOf t ∧ DataW.trod enc P w base spare held n f0.type ((cs.drop f0.offset).take (P.cellsOf f0.type)) = some y0 ∧ DataW.trod enc P w base spare held n f1.type ((cs.drop f1.offset).take (P.cellsOf f1.type)) = some y1 ∧ DataW.trod enc P w base spare held n f2.type ((cs.drop f2.offset).take (P.cellsOf f2.type)) = some y2 ∧ DataW.trod enc P w base spare held n f3.type ((cs.drop f3.offset).take (P.cellsOf f3.type)) = some y3 ∧ DataW.trod enc P w base spare held n f4.type ((cs.drop f4.offset).take (P.cellsOf f4.type)) = some y4 ∧ DataW.trod enc P w base spare held n f5.type ((cs.drop f5.offset).take (P.cellsOf f5.type)) = some y5 ∧ DataW.trod enc P w base spare held n f6.type ((cs.drop f6.offset).take (P.cellsOf f6.type)) = some y6 ∧ DataW.trod enc P w base spare held n f7.type ((cs.drop f7.offset).take (P.cellsOf f7.type)) = some y7 ∧ DataW.trod enc P w base spare held n f8.type ((cs.drop f8.offset).take (P.cellsOf f8.type)) = some y8 ∧ DataW.trod enc P w base spare held n f9.type ((cs.drop f9.offset).take (P.cellsOf f9.type)) = some y9 ∧ DataW.trod enc P w base spare held n f10.type ((cs.drop f10.offset).take (P.cellsOf f10.type)) = some y10 ∧ DataW.trod enc P w base spare held n f11.type ((cs.drop f11.offset).take (P.cellsOf f11.type)) = some y11 ∧ DataW.trod enc P w base spare held n f12.type ((cs.drop f12.offset).take (P.cellsOf f12.type)) = some y12 := by
  obtain ⟨xs, n, _, rfl, hl, hlen, hf⟩ := DataW.trod_struct ht h
  match xs, hlen with
  | [y0, y1, y2, y3, y4, y5, y6, y7, y8, y9, y10, y11, y12], _ => exact ⟨y0, y1, y2, y3, y4, y5, y6, y7, y8, y9, y10, y11, y12, n, fun hz => ⟨hz.part (i := 0) ht rfl rfl, hz.part (i := 1) ht rfl rfl, hz.part (i := 2) ht rfl rfl, hz.part (i := 3) ht rfl rfl, hz.part (i := 4) ht rfl rfl, hz.part (i := 5) ht rfl rfl, hz.part (i := 6) ht rfl rfl, hz.part (i := 7) ht rfl rfl, hz.part (i := 8) ht rfl rfl, hz.part (i := 9) ht rfl rfl, hz.part (i := 10) ht rfl rfl, hz.part (i := 11) ht rfl rfl, hz.part (i := 12) ht rfl rfl⟩, hl, by simpa using hf 0 f0 rfl, by simpa using hf 1 f1 rfl, by simpa using hf 2 f2 rfl, by simpa using hf 3 f3 rfl, by simpa using hf 4 f4 rfl, by simpa using hf 5 f5 rfl, by simpa using hf 6 f6 rfl, by simpa using hf 7 f7 rfl, by simpa using hf 8 f8 rfl, by simpa using hf 9 f9 rfl, by simpa using hf 10 f10 rfl, by simpa using hf 11 f11 rfl, by simpa using hf 12 f12 rfl⟩
section
variable {H : Type} {enc : TypeId × Value → H} {W : World} {base : Nat} {sp : Nat → Bool} {held : Bool}
theorem ofPerV {fuel : Nat} {cs : List Value} {x : DataW H × List MemPlace} (h : DataW.trod enc Tryd.prog W base sp held fuel 23 cs = some x) (hl : cs.length = 3  ) : ∃ o : Int × Int × Int, cs = [.int .i64 o.1, .int .i64 o.2.1, .int .i64 o.2.2] ∧ (True) := by
  match cs, hl with
  | [c0, c1, c2], _ =>
    obtain ⟨y0, y1, y2, n, _, _, h0, h1, h2⟩ := trod_struct3 Tryd.underlying23 h
    have hcint : Tryd.prog.cellsOf 3 = 1 := by kernel_rfl
    obtain ⟨q0, e0, _, _⟩ := DataW.trod_int Tryd.underlying3 h0
    rw [hcint] at e0
    obtain ⟨q1, e1, _, _⟩ := DataW.trod_int Tryd.underlying3 h1
    rw [hcint] at e1
    obtain ⟨q2, e2, _, _⟩ := DataW.trod_int Tryd.underlying3 h2
    rw [hcint] at e2
    simp at e0 e1 e2
    subst e0
    subst e1
    subst e2
    exact ⟨(q0, q1, q2), rfl, trivial⟩
structure RowV where
  pk : Int
  py : Int
  pi : Int
  gk : Int
  gy : Int
  gi : Int
  doc : ByteArray
  sale : Bool
  supply : Int
  treat : Int
  rate : Int
  state : ByteArray
  party : ByteArray
  base : Int
  tax : Int
  deduct : Int
  mixed : Bool
def RowVOk (_ : World) (d : RowV) : Prop := d.doc.size ≤ 140737488351232 ∧ d.state.size ≤ 140737488351232 ∧ d.party.size ≤ 140737488351232
theorem cellsOfRowV : Tryd.prog.cellsOf 25 = 17 := by kernel_rfl
theorem ofRowV {fuel : Nat} {cs : List Value} {x : DataW H × List MemPlace} (h : DataW.trod enc Tryd.prog W base sp held fuel 25 cs = some x) (hz : Fits Tryd.prog 25 x.1) (hl : cs.length = 17) : ∃ o : RowV, cs = [.int .i64 o.pk, .int .i64 o.py, .int .i64 o.pi, .int .i64 o.gk, .int .i64 o.gy, .int .i64 o.gi, .string o.doc, .bool o.sale, .int .i64 o.supply, .int .i64 o.treat, .int .i64 o.rate, .string o.state, .string o.party, .int .i64 o.base, .int .i64 o.tax, .int .i64 o.deduct, .bool o.mixed] ∧ RowVOk W o := by
  match cs, hl with
  | [c0, c1, c2, c3, c4, c5, c6, c7, c8, c9, c10, c11, c12, c13, c14, c15, c16], _ =>
    obtain ⟨y0, y1, y2, y3, y4, y5, y6, y7, y8, y9, y10, y11, y12, n, hzs, _, h0, h1, h2, h3, h4, h5, h6, h7, h8, h9, h10, h11, h12⟩ := trod_struct13 Tryd.underlying25 h
    obtain ⟨z0, z1, z2, z3, z4, z5, z6, z7, z8, z9, z10, z11, z12⟩ := hzs hz
    have hcint : Tryd.prog.cellsOf 3 = 1 := by kernel_rfl
    have hcstr : Tryd.prog.cellsOf 9 = 1 := by kernel_rfl
    have hcbool : Tryd.prog.cellsOf 4 = 1 := by kernel_rfl
    have hcs0 : Tryd.prog.cellsOf 23 = 3 := by kernel_rfl
    rw [hcs0] at h0
    obtain ⟨q0, e0, w0⟩ := ofPerV h0 (by simp)
    have hcs1 : Tryd.prog.cellsOf 23 = 3 := by kernel_rfl
    rw [hcs1] at h1
    obtain ⟨q1, e1, w1⟩ := ofPerV h1 (by simp)
    obtain ⟨q2, e2, d2, _⟩ := DataW.trod_string Tryd.underlying9 h2
    rw [hcstr] at e2
    rw [d2] at z2
    obtain ⟨q3, e3, _⟩ := DataW.trod_bool Tryd.underlying4 h3
    rw [hcbool] at e3
    obtain ⟨q4, e4, _, _⟩ := DataW.trod_int Tryd.underlying3 h4
    rw [hcint] at e4
    obtain ⟨q5, e5, _, _⟩ := DataW.trod_int Tryd.underlying3 h5
    rw [hcint] at e5
    obtain ⟨q6, e6, _, _⟩ := DataW.trod_int Tryd.underlying3 h6
    rw [hcint] at e6
    obtain ⟨q7, e7, d7, _⟩ := DataW.trod_string Tryd.underlying9 h7
    rw [hcstr] at e7
    rw [d7] at z7
    obtain ⟨q8, e8, d8, _⟩ := DataW.trod_string Tryd.underlying9 h8
    rw [hcstr] at e8
    rw [d8] at z8
    obtain ⟨q9, e9, _, _⟩ := DataW.trod_int Tryd.underlying3 h9
    rw [hcint] at e9
    obtain ⟨q10, e10, _, _⟩ := DataW.trod_int Tryd.underlying3 h10
    rw [hcint] at e10
    obtain ⟨q11, e11, _, _⟩ := DataW.trod_int Tryd.underlying3 h11
    rw [hcint] at e11
    obtain ⟨q12, e12, _⟩ := DataW.trod_bool Tryd.underlying4 h12
    rw [hcbool] at e12
    simp at e0 e1 e2 e3 e4 e5 e6 e7 e8 e9 e10 e11 e12
    obtain ⟨rfl, rfl, rfl⟩ := e0
    obtain ⟨rfl, rfl, rfl⟩ := e1
    subst e2
    subst e3
    subst e4
    subst e5
    subst e6
    subst e7
    subst e8
    subst e9
    subst e10
    subst e11
    subst e12
    exact ⟨⟨q0.1, q0.2.1, q0.2.2, q1.1, q1.2.1, q1.2.2, q2, q3, q4, q5, q6, q7, q8, q9, q10, q11, q12⟩, rfl, ⟨z2.text, z7.text, z8.text⟩⟩
theorem openRowV {r : Reach} {b0 : Nat} {v : Value} {d : DataW H} {p : List MemPlace} (hv : Value.okWide Tryd.prog W r b0 25 v)
    (h : DataW.Trod enc Tryd.prog W base sp held 25 v d p) (hz : Fits Tryd.prog 25 d) : ∃ x : RowV, v = .agg #[.int .i64 x.pk, .int .i64 x.py, .int .i64 x.pi, .int .i64 x.gk, .int .i64 x.gy, .int .i64 x.gi, .string x.doc, .bool x.sale, .int .i64 x.supply, .int .i64 x.treat, .int .i64 x.rate, .string x.state, .string x.party, .int .i64 x.base, .int .i64 x.tax, .int .i64 x.deduct, .bool x.mixed] ∧ RowVOk W x := by
  obtain ⟨cs, rfl, hsz⟩ := okWide_struct Tryd.underlying25 hv
  obtain ⟨fuel, hf⟩ := h
  obtain ⟨o, ho, hw⟩ := ofRowV (cs := cs.toList) (by simpa [Value.cells] using hf) hz (by rw [Array.length_toList, hsz, cellsOfRowV])
  refine ⟨o, ?_, hw⟩
  congr 1
  apply Array.ext'
  rw [ho]
end
end Go.Proofs.YtaccjfoifkfpfaaDoor
