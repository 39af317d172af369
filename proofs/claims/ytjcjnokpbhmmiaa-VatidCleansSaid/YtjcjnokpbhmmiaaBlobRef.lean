/- Small facts on bytes that lie in memory. -/
import Derived.Test.YtjcjnokpbhmmiaaBlobNum
namespace Go.Proofs.Ytjcjnokpbhmmiaa
open Go.RowKit
set_option maxRecDepth 100000

theorem own_base {w : World} {B B' : Nat} {v : Value} {n : Nat} {xs : List Value} (h : w.ownsRow B 5 1 v n xs) (hB : B' ≤ B) : w.ownsRow B' 5 1 v n xs := by
  refine ⟨h.1, ?_⟩
  rcases h.2 with h | ⟨g, c, cur, h1, h2, h3⟩
  · exact .inl h
  · exact .inr ⟨g, c, cur, h1, Nat.le_trans hB h2, h3⟩
theorem le_get (k : Nat) : ∀ m i : Nat, i < k → (Blob.le k m)[i]? = some (UInt8.ofNat (m / 256 ^ i % 256)) := by
  induction k with
  | zero => intro m i h; omega
  | succ k ih =>
    intro m i h
    cases i with
    | zero => simp [Blob.le]
    | succ i =>
      have := ih (m / 256) i (by omega)
      simp only [Blob.le, List.getElem?_cons_succ]
      rw [this, Nat.div_div_eq_div_mul, show 256 * 256 ^ i = 256 ^ (i + 1) by rw [Nat.pow_succ, Nat.mul_comm]]

end Go.Proofs.Ytjcjnokpbhmmiaa
