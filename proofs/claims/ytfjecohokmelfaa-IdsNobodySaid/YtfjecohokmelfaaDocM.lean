/- Commands: what it is to be the same. -/
import Derived.Test.YtfjecohokmelfaaDocH
namespace Go.Proofs.Ytfjecohokmelfaa
open Go.RowKit
set_option maxRecDepth 100000
set_option linter.unusedSimpArgs false

/-- a command's document -/
def docOf (x : CmdV) : DocV := ⟨x.id, x.sale, x.credit, x.refers, x.day, x.country, x.number, x.currency, x.linesA, x.lines, x.linesC⟩
theorem DocVOk.on {w W : World} {d : DocV} (h : DocVOk w d) (hb : Below w.heap.size w W) : DocVOk W d := by
  obtain ⟨h1, h2, h3, h4, h5, hr, h6⟩ := h
  exact ⟨h1, h2, h3, h4, h5, hr.on hb, h6⟩
theorem docOf_ok {w : World} {x : CmdV} (h : CmdVOk w x) : DocVOk w (docOf x) := by
  obtain ⟨_, _, h⟩ := h
  exact h
def sameC (x y : CmdV) : Bool := (x.kind == y.kind) && ((x.state.toList == y.state.toList) && ((x.text.toList == y.text.toList) && ((x.category == y.category) && ((x.bp == y.bp) && ((x.from_ == y.from_) && ((x.until_ == y.until_) && ((x.num == y.num) && ((x.den == y.den) && ((x.index == y.index) && ((x.pk == y.pk) && ((x.py == y.py) && ((x.pi == y.pi) && sameD (docOf x) (docOf y)))))))))))))
end Go.Proofs.Ytfjecohokmelfaa
