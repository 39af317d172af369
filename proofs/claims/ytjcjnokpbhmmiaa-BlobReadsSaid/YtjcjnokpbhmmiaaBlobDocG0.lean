/- The document's reader: what its loop has as it goes. -/
import Derived.Test.YtjcjnokpbhmmiaaBlobDocF
namespace Go.Proofs.Ytjcjnokpbhmmiaa
open Go.RowKit
set_option maxRecDepth 100000
theorem val_take_le (l : Text) (k : Nat) : ∀ d : Nat, k + d ≤ l.length → Blob.val (l.take k) ≤ Blob.val (l.take (k + d)) := by
  intro d
  induction d with
  | zero => intro _; exact Nat.le_refl _
  | succ d ih =>
    intro h
    refine Nat.le_trans (ih (by omega)) ?_
    rw [← Nat.add_assoc, List.take_succ_eq_append_getElem (by omega), Blob.val_snoc]
    omega
theorem dgot_fin {w wr : World} {g : Nat} {A : Option Addr} {T : Text} {c at_ : Nat} {z v : Value} (h : Drd wr g A T c at_ false) (ho : Only w wr g) (k : Nat) (hk : k ≤ T.length) (K : Int) (hK : K = k) : DGot w g A T c z (some (v, T.drop k)) (.returned v) (wr.setCell ⟨g, 1, none⟩ (.int .i64 K)) := by
  subst hK
  obtain ⟨h1, h2⟩ := h.to k hk
  exact ⟨rfl, ho.trans h2, k, h1, rfl⟩
/-- one more byte -/
theorem val_steps {T : Text} {at_ m V : Nat} (hV : V = Blob.val ((T.drop (at_ + 1)).take m)) (hV2 : V ≤ 9223372036854775807) (hC : at_ + 1 + m ≤ T.length) :
    ∀ j, j < m → ∃ b v2 p : Nat, b ≤ 255 ∧ v2 = Blob.val ((T.drop (at_ + 1)).take (j + 1)) ∧ v2 = Blob.val ((T.drop (at_ + 1)).take j) * 256 + b ∧ (p = at_ + 1 + j ∧ v2 ≤ 9223372036854775807) ∧ (∀ h : p < T.length, T[p].toNat = b) ∧ p < T.length := by
  intro j hj
  have hl : j < (T.drop (at_ + 1)).length := by rw [List.length_drop]; omega
  have h1 := List.take_succ_eq_append_getElem hl
  refine ⟨(T.drop (at_ + 1))[j].toNat, Blob.val ((T.drop (at_ + 1)).take (j + 1)), at_ + 1 + j, ?_, rfl, ?_, ⟨rfl, ?_⟩, ?_, by omega⟩
  · have := ((T.drop (at_ + 1))[j]).toNat_lt; omega
  · rw [h1, Blob.val_snoc]
  · have := val_take_le (T.drop (at_ + 1)) (j + 1) (m - (j + 1)) (by rw [List.length_drop]; omega)
    rw [show j + 1 + (m - (j + 1)) = m by omega, ← hV] at this
    omega
  · intro h; rw [List.getElem_drop]
end Go.Proofs.Ytjcjnokpbhmmiaa
