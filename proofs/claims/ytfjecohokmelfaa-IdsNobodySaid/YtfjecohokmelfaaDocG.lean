/- Rows of lines: are they the same? -/
import Derived.Test.YtfjecohokmelfaaDocB
import Derived.Test.YtfjecohokmelfaaDrawB
namespace Go.Proofs.Ytfjecohokmelfaa
open Go.RowKit
set_option maxRecDepth 100000
attribute [local go_sem] Oper.semAt_some

theorem below_drawn (w : World) : Below w.heap.size w w.drew := (Below.refl _ w).drew
/-- lines held against each other, field by field -/
def likeL (p q : LineV) : Bool := decide (p.1 = q.1 ∧ p.2.1 = q.2.1 ∧ p.2.2.1.toList = q.2.2.1.toList ∧ p.2.2.2.1.toList = q.2.2.2.1.toList ∧ p.2.2.2.2.1.toList = q.2.2.2.2.1.toList ∧ p.2.2.2.2.2.1 = q.2.2.2.2.2.1 ∧ p.2.2.2.2.2.2.1 = q.2.2.2.2.2.2.1 ∧ p.2.2.2.2.2.2.2.1 = q.2.2.2.2.2.2.2.1 ∧ p.2.2.2.2.2.2.2.2 = q.2.2.2.2.2.2.2.2)
def likes (L M : List LineV) : Bool := L.length == M.length && (L.zip M).all fun x => likeL x.1 x.2
theorem likes_next {L M : List LineV} {k : Nat} (hk : k < L.length) (hm : k < M.length) (h : ((L.zip M).take k).all (fun x => likeL x.1 x.2) = true) (hs : likeL L[k] M[k] = true) : ((L.zip M).take (k + 1)).all (fun x => likeL x.1 x.2) = true := by
  rw [List.take_succ_eq_append_getElem (by rw [List.length_zip]; omega), List.all_append, h]
  simp [hs]
theorem likes_not {L M : List LineV} {k : Nat} (hk : k < L.length) (hm : k < M.length) (hs : likeL L[k] M[k] = false) : likes L M = false := by
  unfold likes
  have h : (L.zip M).all (fun x => likeL x.1 x.2) = false := by
    rw [List.all_eq_false]
    exact ⟨(L.zip M)[k]'(by rw [List.length_zip]; omega), List.getElem_mem _, by simp [hs]⟩
  rw [h, Bool.and_false]
end Go.Proofs.Ytfjecohokmelfaa
