/- Two commands are the same just if the document says so. -/
import Derived.Test.YtplghpamckdklaaRcZ
namespace Go.Proofs.Ytplghpamckdklaa
open Go.RowKit Go.ChangeShapes
set_option maxRecDepth 100000
set_option linter.unusedSimpArgs false
set_option linter.unusedVariables false

theorem CmdVOk.on {w W : World} {x : CmdV} (h : CmdVOk w x) (hb : Below w.heap.size w W) : CmdVOk W x := by
  obtain ⟨h1, h2, h3, h4, h5, h6, h7, hr, h8⟩ := h
  exact ⟨h1, h2, h3, h4, h5, h6, h7, hr.on hb, h8⟩
theorem light_lines {x : CmdV} (h : lightC x = true) : x.lines.length ≤ 140737488351232 := by
  unfold lightC at h
  simp only [Bool.and_eq_true, decide_eq_true_eq] at h
  omega
theorem recordSame_any (x y : CmdV) (w : World) (hx : CmdVOk w x) (hy : CmdVOk w y) :
    Calls Try.prog 3 #[.agg #[.int .i64 x.kind, .string x.state, .string x.text, .int .i64 x.category, .int .i64 x.bp, .int .i64 x.from_, .int .i64 x.until_, .int .i64 x.num, .int .i64 x.den, .int .i64 x.index, .int .i64 x.pk, .int .i64 x.py, .int .i64 x.pi, .string x.id, .bool x.sale, .bool x.credit, .string x.refers, .int .i64 x.day, .string x.country, .string x.number, .string x.currency, .slice x.linesA x.lines.length x.linesC], .agg #[.int .i64 y.kind, .string y.state, .string y.text, .int .i64 y.category, .int .i64 y.bp, .int .i64 y.from_, .int .i64 y.until_, .int .i64 y.num, .int .i64 y.den, .int .i64 y.index, .int .i64 y.pk, .int .i64 y.py, .int .i64 y.pi, .string y.id, .bool y.sale, .bool y.credit, .string y.refers, .int .i64 y.day, .string y.country, .string y.number, .string y.currency, .slice y.linesA y.lines.length y.linesC]] w fun e w1 => e = .returned (.bool true) ∧ Below w.heap.size w w1 := by
  have h7 : ∀ W, Below w.heap.size w W → Calls Try.prog 7 #[] W fun e w1 => e = .returned (.bool true) ∧ Below W.heap.size W w1 := fun W _ => rec_lives W
  cases hlx : lightC x with
  | false => exact same_long1 #[.int .i64 x.kind, .string x.state, .string x.text, .int .i64 x.category, .int .i64 x.bp, .int .i64 x.from_, .int .i64 x.until_, .int .i64 x.num, .int .i64 x.den, .int .i64 x.index, .int .i64 x.pk, .int .i64 x.py, .int .i64 x.pi, .string x.id, .bool x.sale, .bool x.credit, .string x.refers, .int .i64 x.day, .string x.country, .string x.number, .string x.currency, .slice x.linesA x.lines.length x.linesC] #[.int .i64 y.kind, .string y.state, .string y.text, .int .i64 y.category, .int .i64 y.bp, .int .i64 y.from_, .int .i64 y.until_, .int .i64 y.num, .int .i64 y.den, .int .i64 y.index, .int .i64 y.pk, .int .i64 y.py, .int .i64 y.pi, .string y.id, .bool y.sale, .bool y.credit, .string y.refers, .int .i64 y.day, .string y.country, .string y.number, .string y.currency, .slice y.linesA y.lines.length y.linesC] w rfl rfl (Lib.hid fun W hb => code_light x W (hx.on hb) false hlx) (Lib.hid h7)
  | true =>
    cases hly : lightC y with
    | false => exact same_long2 #[.int .i64 x.kind, .string x.state, .string x.text, .int .i64 x.category, .int .i64 x.bp, .int .i64 x.from_, .int .i64 x.until_, .int .i64 x.num, .int .i64 x.den, .int .i64 x.index, .int .i64 x.pk, .int .i64 x.py, .int .i64 x.pi, .string x.id, .bool x.sale, .bool x.credit, .string x.refers, .int .i64 x.day, .string x.country, .string x.number, .string x.currency, .slice x.linesA x.lines.length x.linesC] #[.int .i64 y.kind, .string y.state, .string y.text, .int .i64 y.category, .int .i64 y.bp, .int .i64 y.from_, .int .i64 y.until_, .int .i64 y.num, .int .i64 y.den, .int .i64 y.index, .int .i64 y.pk, .int .i64 y.py, .int .i64 y.pi, .string y.id, .bool y.sale, .bool y.credit, .string y.refers, .int .i64 y.day, .string y.country, .string y.number, .string y.currency, .slice y.linesA y.lines.length y.linesC] w rfl rfl (Lib.hid fun W hb => code_light x W (hx.on hb) true hlx) (Lib.hid fun W hb => code_light y W (hy.on hb) false hly) (Lib.hid h7)
    | true =>
      have n1 := light_lines hlx
      have n2 := light_lines hly
      exact same_walk #[.int .i64 x.kind, .string x.state, .string x.text, .int .i64 x.category, .int .i64 x.bp, .int .i64 x.from_, .int .i64 x.until_, .int .i64 x.num, .int .i64 x.den, .int .i64 x.index, .int .i64 x.pk, .int .i64 x.py, .int .i64 x.pi, .string x.id, .bool x.sale, .bool x.credit, .string x.refers, .int .i64 x.day, .string x.country, .string x.number, .string x.currency, .slice x.linesA x.lines.length x.linesC] #[.int .i64 y.kind, .string y.state, .string y.text, .int .i64 y.category, .int .i64 y.bp, .int .i64 y.from_, .int .i64 y.until_, .int .i64 y.num, .int .i64 y.den, .int .i64 y.index, .int .i64 y.pk, .int .i64 y.py, .int .i64 y.pi, .string y.id, .bool y.sale, .bool y.credit, .string y.refers, .int .i64 y.day, .string y.country, .string y.number, .string y.currency, .slice y.linesA y.lines.length y.linesC] (.string x.id) (.bool x.sale) (.bool x.credit) (.string x.refers) (.int .i64 x.day) (.string x.country) (.string x.number) (.string x.currency) (.slice x.linesA x.lines.length x.linesC) (.string y.id) (.bool y.sale) (.bool y.credit) (.string y.refers) (.int .i64 y.day) (.string y.country) (.string y.number) (.string y.currency) (.slice y.linesA y.lines.length y.linesC) (sameC x y) (sameD (docOf x) (docOf y)) w rfl rfl
        (Lib.hid fun W hb => code_light x W (hx.on hb) true hlx) (Lib.hid fun W hb => code_light y W (hy.on hb) true hly)
        (Lib.hid fun W hb => code_same x y W (hx.on hb) (hy.on hb) n1 _ rfl)
        (Lib.hid fun W hb => ref_same x y W (hx.on hb) (hy.on hb) n1 _ rfl)
        (Lib.hid fun W hb => code_sameDoc (docOf x) (docOf y) W (docOf_ok (hx.on hb)) (docOf_ok (hy.on hb)) n1 _ rfl)
        (Lib.hid fun W hb => ref_sameDoc (docOf x) (docOf y) W (docOf_ok (hx.on hb)) (docOf_ok (hy.on hb)) n1 _ rfl)
        (Lib.hid fun W hb => code_same x x W (hx.on hb) (hx.on hb) n1 true (sameC_self x))
        (Lib.hid fun W hb => code_sameDoc (docOf y) (docOf y) W (docOf_ok (hy.on hb)) (docOf_ok (hy.on hb)) n2 true (sameD_self _))
        (Lib.hid h7) (Lib.hid ⟨rfl, rfl, rfl, rfl, rfl, rfl, rfl, rfl, rfl⟩) (Lib.hid ⟨rfl, rfl, rfl, rfl, rfl, rfl, rfl, rfl, rfl⟩)
end Go.Proofs.Ytplghpamckdklaa
