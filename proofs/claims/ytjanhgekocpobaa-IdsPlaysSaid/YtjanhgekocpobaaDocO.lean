/- Currencies: the document's. -/
import Derived.Test.YtjanhgekocpobaaDocN
namespace Go.Proofs.Ytjanhgekocpobaa
open Go.RowKit
set_option maxRecDepth 100000

/-- three letters -/
def currT : List Nat → Bool
  | [a, b, c] => Vat.letter a && (Vat.letter b && Vat.letter c)
  | _ => false
def currB (s : ByteArray) : Bool := currT (s.data.toList.map (·.toNat))
theorem curr_three {s : ByteArray} (h : s.size = 3) : currB s = (Vat.letter (s[0]'(by omega)).toNat && (Vat.letter (s[1]'(by omega)).toNat && Vat.letter (s[2]'(by omega)).toNat)) := by
  obtain ⟨⟨l⟩⟩ := s
  match l, h with
  | [a, b, c], _ => rfl
theorem curr_not {s : ByteArray} (h : s.size ≠ 3) : currB s = false := by
  obtain ⟨⟨l⟩⟩ := s
  match l, h with
  | [], _ => rfl
  | [_], _ => rfl
  | [_, _], _ => rfl
  | [_, _, _], h => exact absurd rfl h
  | _ :: _ :: _ :: _ :: _, _ => rfl
theorem ref_currency (s : ByteArray) (w : World) (h : s.size ≤ 9223372036854775807) : Calls Try.prog 32 #[.string s] w fun e w' => e = .returned (.bool (currB s)) ∧ w = w' := by
  have h2 : (s.size : Int) ≤ 9223372036854775807 := by omega
  by_cases h0 : s.size = 3
  · rw [curr_three h0]
    have h3 : (s.size : Int) = 3 := by omega
    cases h4 : Vat.letter (s[0]'(by omega)).toNat <;> cases h5 : Vat.letter (s[1]'(by omega)).toNat
    all_goals
      go_enter Try.func32, Try.ntmps32
      go_wp2_with (go_at_call 45; refine (ref_letter _ w (byte_le _)).mono ?_; rintro e w1 ⟨rfl, rfl⟩)
      go_ret
      exact ⟨by simp, rfl⟩
  · rw [curr_not h0]
    have h3 : ((s.size : Int) == 3) = false := beq_false_of_ne (by omega)
    clear h0
    go_enter Try.func32, Try.ntmps32
    go_wp2
    go_ret
    exact ⟨rfl, rfl⟩
end Go.Proofs.Ytjanhgekocpobaa
