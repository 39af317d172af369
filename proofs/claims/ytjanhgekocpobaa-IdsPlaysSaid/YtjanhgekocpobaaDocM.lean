/- Rows of lines: are they the same? Documents: are they the same? Commands: what it is to be the same. -/
import Derived.Test.YtjanhgekocpobaaDocB
import Derived.Test.YtjanhgekocpobaaDrawB
namespace Go.Proofs.Ytjanhgekocpobaa
open Go.RowKit
set_option maxRecDepth 100000
attribute [local go_sem] Oper.semAt_some

theorem below_drawn (w : World) : Below w.heap.size w w.drew := (Below.refl _ w).drew
/-- lines held against each other, field by field -/
def likeL (p q : LineV) : Bool := decide (p.1 = q.1 ∧ p.2.1 = q.2.1 ∧ p.2.2.1.toList = q.2.2.1.toList ∧ p.2.2.2.1.toList = q.2.2.2.1.toList ∧ p.2.2.2.2.1.toList = q.2.2.2.2.1.toList ∧ p.2.2.2.2.2.1 = q.2.2.2.2.2.1 ∧ p.2.2.2.2.2.2.1 = q.2.2.2.2.2.2.1 ∧ p.2.2.2.2.2.2.2.1 = q.2.2.2.2.2.2.2.1 ∧ p.2.2.2.2.2.2.2.2 = q.2.2.2.2.2.2.2.2)
def likes (L M : List LineV) : Bool := L.length == M.length && (L.zip M).all fun x => likeL x.1 x.2
theorem likes_next {L M : List LineV} {k : Nat} (hk : k < L.length) (hm : k < M.length) (h : ((L.zip M).take k).all (fun x => likeL x.1 x.2) = true) (hs : likeL L[k] M[k] = true) : ((L.zip M).take (k + 1)).all (fun x => likeL x.1 x.2) = true := by
  rw [List.take_succ_eq_append_getElem (by rw [List.length_zip]; omega), List.all_append, h]
  simp [hs]
theorem likes_not {L M : List LineV} {k : Nat} (hk : k < L.length) (hm : k < M.length) (hs : likeL L[k] M[k] = false) : likes L M = false := by
  unfold likes
  have h : (L.zip M).all (fun x => likeL x.1 x.2) = false := by
    rw [List.all_eq_false]
    exact ⟨(L.zip M)[k]'(by rw [List.length_zip]; omega), List.getElem_mem _, by simp [hs]⟩
  rw [h, Bool.and_false]
end Go.Proofs.Ytjanhgekocpobaa

namespace Go.Proofs.Ytjanhgekocpobaa
open Go.RowKit
set_option maxRecDepth 100000
set_option linter.unusedSimpArgs false

def sameD (x y : DocV) : Bool := (x.id.toList == y.id.toList) && ((x.sale == y.sale) && ((x.credit == y.credit) && ((x.refers.toList == y.refers.toList) && ((x.day == y.day) && ((x.country.toList == y.country.toList) && ((x.number.toList == y.number.toList) && ((x.currency.toList == y.currency.toList) && likes x.lines y.lines)))))))
end Go.Proofs.Ytjanhgekocpobaa

namespace Go.Proofs.Ytjanhgekocpobaa
open Go.RowKit
set_option maxRecDepth 100000
set_option linter.unusedSimpArgs false

/-- a command's document -/
def docOf (x : CmdV) : DocV := ⟨x.id, x.sale, x.credit, x.refers, x.day, x.country, x.number, x.currency, x.linesA, x.lines, x.linesC⟩
theorem DocVOk.on {w W : World} {d : DocV} (h : DocVOk w d) (hb : Below w.heap.size w W) : DocVOk W d := by
  obtain ⟨h1, h2, h3, h4, h5, hr, h6⟩ := h
  exact ⟨h1, h2, h3, h4, h5, hr.on hb, h6⟩
theorem docOf_ok {w : World} {x : CmdV} (h : CmdVOk w x) : DocVOk w (docOf x) := by
  obtain ⟨_, _, h⟩ := h
  exact h
def sameC (x y : CmdV) : Bool := (x.kind == y.kind) && ((x.state.toList == y.state.toList) && ((x.text.toList == y.text.toList) && ((x.category == y.category) && ((x.bp == y.bp) && ((x.from_ == y.from_) && ((x.until_ == y.until_) && ((x.num == y.num) && ((x.den == y.den) && ((x.index == y.index) && ((x.pk == y.pk) && ((x.py == y.py) && ((x.pi == y.pi) && sameD (docOf x) (docOf y)))))))))))))
end Go.Proofs.Ytjanhgekocpobaa
