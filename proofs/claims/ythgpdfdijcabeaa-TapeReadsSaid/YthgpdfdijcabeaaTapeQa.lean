/- Sectors are the cuts of what they hold just if nought stands behind it. -/
import Derived.Test.YthgpdfdijcabeaaTapeU
import Derived.Test.YthgpdfdijcabeaaTapeO
namespace Go.Proofs.Ythgpdfdijcabeaa
open Go.RowKit
set_option maxRecDepth 100000

theorem flat_at (L : List Text) (h : ∀ i (hi : i < L.length), L[i].length = 64) : ∀ i (hi : i < L.length), L[i] = (L.flatten.drop (64 * i)).take 64 := by
  induction L with
  | nil => intro i hi; simp at hi
  | cons a L ih =>
    have h0 : a.length = 64 := h 0 (by simp)
    intro i hi
    rw [List.flatten_cons]
    cases i with
    | zero => simp [List.take_append_of_le_length (Nat.le_of_eq h0.symm), List.take_of_length_le (Nat.le_of_eq h0)]
    | succ i =>
      have hi' : i < L.length := by simpa using hi
      rw [List.getElem_cons_succ, ih (fun j hj => by have := h (j + 1) (by simpa using hj); simpa using this) i hi', show 64 * (i + 1) = a.length + 64 * i by omega, List.drop_append, (List.drop_of_length_le (by omega) : List.drop (a.length + 64 * i) a = []), List.nil_append, show a.length + 64 * i - a.length = 64 * i by omega]
theorem cuts_iff (L : List Text) (n : Nat) (h64 : ∀ i (hi : i < L.length), L[i].length = 64) (hm : L.length = (n + 63) / 64) :
    (∀ i, i < L.length → L[i]? = some (cutT (joinT L n) i)) ↔ ∀ j, n ≤ j → (h : j < L.flatten.length) → L.flatten[j] = 0 := by
  have hf := flat_len L h64
  have hT : (joinT L n).length = n := by unfold joinT; rw [List.length_take]; omega
  constructor
  · intro h j hj hjl
    have hL : L = cutP (joinT L n) L.length := by
      refine List.ext_getElem (cutP_len _ _).symm fun i h1 h2 => ?_
      rw [cutP_at]
      have := h i h1
      rw [List.getElem?_eq_getElem h1] at this
      injection this
    have hF : L.flatten = (padT (joinT L n) 64).take (64 * L.length) := by
      conv => lhs; rw [hL]
      exact cutP_flat (joinT L n) 64 (Nat.le_refl _) L.length (by omega)
    have h1 : L.flatten[j]? = some 0 := by
      rw [hF, List.getElem?_take, if_pos (by omega)]
      unfold padT
      rw [List.getElem?_append_right (by omega), List.getElem?_replicate, if_pos (by omega)]
    rw [List.getElem?_eq_getElem hjl] at h1
    injection h1
  · intro h i hi
    rw [List.getElem?_eq_getElem hi, flat_at L h64 i hi, cut_pad (joinT L n) i 64 (Nat.le_refl _) (by omega)]
    congr 1
    have hF : L.flatten = (padT (joinT L n) 64).take (64 * L.length) := by
      refine List.ext_getElem (by unfold padT; rw [List.length_take, List.length_append, List.length_replicate, hf]; omega) fun j h1 h2 => ?_
      rw [List.getElem_take]
      unfold padT
      by_cases hj : j < n
      · rw [List.getElem_append_left (by omega)]
        unfold joinT
        rw [List.getElem_take]
      · rw [List.getElem_append_right (by omega), List.getElem_replicate]
        exact h j (by omega) h1
    rw [hF, List.drop_take, List.take_take, Nat.min_eq_left (by omega)]
end Go.Proofs.Ythgpdfdijcabeaa
