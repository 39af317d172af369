/- A document, and a command, is the same as itself. -/
import Derived.Test.YtplghpamckdklaaDocM
namespace Go.Proofs.Ytplghpamckdklaa

theorem likeL_self (p : LineV) : likeL p p = true := by
  unfold likeL
  simp
theorem likes_self (L : List LineV) : likes L L = true := by
  unfold likes
  rw [beq_self_eq_true, Bool.true_and, List.all_eq_true]
  intro z hz
  obtain ⟨i, hi, rfl⟩ := List.getElem_of_mem hz
  rw [List.getElem_zip]
  exact likeL_self _
theorem sameD_self (x : DocV) : sameD x x = true := by
  unfold sameD
  simp [likes_self]
theorem sameC_self (x : CmdV) : sameC x x = true := by
  unfold sameC
  simp [sameD_self]
end Go.Proofs.Ytplghpamckdklaa
