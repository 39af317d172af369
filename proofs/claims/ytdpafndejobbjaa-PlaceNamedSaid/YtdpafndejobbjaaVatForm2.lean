/- The document's own forms of a country. -/
import Derived.Test.YtdpafndejobbjaaVatForm
namespace Go.Proofs.Ytdpafndejobbjaa
open Go.RowKit Go.Maps
set_option maxRecDepth 1000000

/-- what was found after so many bytes -/
def fAt (c : List UInt8) (j : Nat) : List UInt8 × List UInt8 × List (List UInt8) := (listT.take j).foldl (stF c) ([], [], [])
theorem fAt_step (c : List UInt8) {j : Nat} (h : j < 479) : fAt c (j + 1) = stF c (fAt c j) (listT.getD j 0) := by
  have hl : j < listT.length := by rw [show listT.length = 479 from list_size]; exact h
  unfold fAt
  rw [List.take_succ_eq_append_getElem hl, List.foldl_append, List.getD_eq_getElem?_getD, List.getElem?_eq_getElem hl]
  rfl
theorem strT_nil_iff (s : ByteArray) : strT s = [] ↔ s = {data:=#[]} := ⟨fun h => strT_inj h, fun h => by rw [h]; rfl⟩
theorem strT_append (a b : ByteArray) : strT (a ++ b) = strT a ++ strT b := by
  unfold strT
  rw [ByteArray.data_append, Array.toList_append]
theorem forms_small (c : ByteArray) : ∀ f ∈ formsOf c, f.size ≤ 1000 := by
  intro f hf
  unfold formsOf at hf
  cases h : tabL.find? (fun p => decide (p.1 = c)) with
  | none => rw [h] at hf; simp at hf
  | some p => rw [h] at hf; exact tabL_small p (List.mem_of_find?_eq_some h) f hf
end Go.Proofs.Ytdpafndejobbjaa
