/- The document's reader: a text. -/
import Derived.Test.YtjcjnokpbhmmiaaBlobDocK
namespace Go.Proofs.Ytjcjnokpbhmmiaa
open Go.RowKit
set_option maxRecDepth 100000

theorem drd_lim {w : World} {g : Nat} {A : Option Addr} {T : Text} {c at_ : Nat} {bad : Bool} (h : Drd w g A T c at_ bad) : (T.length : Int) ≤ 5000 ∧ (at_ : Int) ≤ (T.length : Int) ∧ T.length ≤ c ∧ c ≤ 9223372036854775807 := by
  obtain ⟨_, h2, h3, h4, h5, _⟩ := h
  unfold maxLen at h5
  omega
/-- the slice of it that is read, as a text -/
theorem sub_run {w : World} {A : Option Addr} {T : Text} {k n : Nat} (c : Nat) (h : Txt w A T) (hk : k + n ≤ T.length) (hA : ∀ a, A = some a → True) (a : Addr) (e : A = some a) :
    (convert 22 9 (.slice (some (a.add k)) n c)).run Try.prog w = .ok (.string ⟨((T.drop k).take n).toArray⟩) w := by
  subst e
  have hl : ((T.drop k).take n).length = n := by rw [List.length_take, List.length_drop]; omega
  have h2 := (h.drop k).take n
  have := text_run w (some (a.add k)) c ((T.drop k).take n) h2 (by simp)
  rw [hl] at this
  exact this

/-- behind the number: a text, or none -/
def TGot (w : World) (g : Nat) (A : Option Addr) (T : Text) (c : Nat) (d : Option (ByteArray × Text)) (e : Ending) (w' : World) : Prop := DGot w g A T c (.string {data:=#[]}) (d.map fun p => (.string p.1, p.2)) e w'
theorem dgot_later {w w1 w' : World} {g : Nat} {A : Option Addr} {T : Text} {c : Nat} {z : Value} {d : Option (Value × Text)} {e : Ending} (ho : Only w w1 g) (h : DGot w1 g A T c z d e w') : DGot w g A T c z d e w' := by
  cases d with
  | none => obtain ⟨h1, h2, h3⟩ := h; exact ⟨h1, ho.trans h2, h3⟩
  | some p => obtain ⟨v, r⟩ := p; obtain ⟨h1, h2, h3⟩ := h; exact ⟨h1, ho.trans h2, h3⟩


theorem txt_nil (w : World) (A : Option Addr) : Txt w A [] := fun h => absurd rfl h
theorem cv_run {w : World} {g : Nat} {a : Addr} {T : Text} {c k n p : Nat} (h : Drd w g (some a) T c k false) (hp : p = k + n) (hl : p ≤ T.length) (W : World) (hb : Below w.heap.size w W) :
    (convert 22 9 (.slice (if c = k then some a else some (a.add k)) (p - k) (c - k))).run Try.prog W = .ok (.string ⟨((T.drop k).take n).toArray⟩) W := by
  have hT := h.2.2.2.2.2.1.below hb
  have hc := h.2.2.2.1
  subst hp
  rw [Nat.add_sub_cancel_left]
  by_cases hk : c = k
  · have h0 : n = 0 := by omega
    subst h0
    rw [if_pos hk]
    exact text_run W (some a) (c - k) [] (txt_nil W _) (by simp)
  · rw [if_neg hk]
    exact sub_run (c - k) hT (by omega) (fun _ _ => trivial) a rfl
end Go.Proofs.Ytjcjnokpbhmmiaa
