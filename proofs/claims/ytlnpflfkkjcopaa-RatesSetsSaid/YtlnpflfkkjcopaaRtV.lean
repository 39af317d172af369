/- Countries and member states: the program's. -/
import Derived.Test.YtlnpflfkkjcopaaBase
import Derived.Deep.QuietTactic
import Derived.BigQuiet
namespace Go.Proofs.Ytlnpflfkkjcopaa
open Go.RowKit
set_option maxRecDepth 100000

def bytesOf (s : ByteArray) : List UInt8 := s.data.toList
theorem bytes_inj {a b : ByteArray} (h : bytesOf a = bytesOf b) : a = b := by
  obtain ⟨⟨x⟩⟩ := a
  obtain ⟨⟨y⟩⟩ := b
  simp [bytesOf] at h
  rw [h]
def letterB (b : Nat) : Bool := decide (65 ≤ b) && decide (b ≤ 90)
def countryB : List UInt8 → Bool
  | [a, b] => letterB a.toNat && letterB b.toNat
  | _ => false
theorem letter_yes {b : Nat} (h : 65 ≤ (b : Int)) : letterB b = decide ((b : Int) ≤ 90) := by
  unfold letterB
  rw [decide_eq_true (by omega : 65 ≤ b), Bool.true_and, Bool.eq_iff_iff, decide_eq_true_iff, decide_eq_true_iff]; omega
theorem letter_no {b : Nat} (h : ¬ 65 ≤ (b : Int)) : letterB b = false := by
  unfold letterB
  rw [decide_eq_false (by omega : ¬ 65 ≤ b), Bool.false_and]
theorem code_letter (b : Nat) (w : World) (h : b ≤ 255) : Calls Try.prog 63 #[.int .u8 b] w fun e w' => e = .returned (.bool (letterB b)) ∧ w = w' := by
  have hb : (b : Int) ≤ 255 := by omega
  by_cases h0 : 65 ≤ (b : Int)
  · rw [letter_yes h0]
    go_enter Try.func63, Try.ntmps63
    go_wp2
    go_ret
    exact ⟨rfl, rfl⟩
  · rw [letter_no h0]
    go_enter Try.func63, Try.ntmps63
    go_wp2
    go_ret
    exact ⟨rfl, rfl⟩
theorem country_two {s : ByteArray} (h : s.size = 2) : countryB (bytesOf s) = (letterB (s[0]'(by omega)).toNat && letterB (s[1]'(by omega)).toNat) := by
  obtain ⟨⟨l⟩⟩ := s
  match l, h with
  | [a, b], _ => rfl
theorem country_not {s : ByteArray} (h : s.size ≠ 2) : countryB (bytesOf s) = false := by
  obtain ⟨⟨l⟩⟩ := s
  match l, h with
  | [], _ => rfl
  | [_], _ => rfl
  | [_, _], h => exact absurd rfl h
  | _ :: _ :: _ :: _, _ => rfl
theorem byte_le (b : UInt8) : b.toNat ≤ 255 := by have := b.toNat_lt; omega
theorem code_country (s : ByteArray) (w : World) (h : s.size ≤ 9223372036854775807) : Calls Try.prog 58 #[.string s] w fun e w' => e = .returned (.bool (countryB (bytesOf s))) ∧ w = w' := by
  have h2 : (s.size : Int) ≤ 9223372036854775807 := by omega
  by_cases h0 : s.size = 2
  · rw [country_two h0]
    have h3 : (s.size : Int) = 2 := by omega
    cases h4 : letterB (s[0]'(by omega)).toNat
    all_goals
      go_enter Try.func58, Try.ntmps58
      go_wp2_with (go_at_call 63; refine (code_letter _ w (byte_le _)).mono ?_; rintro e w1 ⟨rfl, rfl⟩)
      go_ret
      exact ⟨rfl, rfl⟩
  · rw [country_not h0]
    have h3 : ((s.size : Int) == 2) = false := beq_false_of_ne (by omega)
    clear h0
    go_enter Try.func58, Try.ntmps58
    go_wp2
    go_ret
    exact ⟨rfl, rfl⟩
end Go.Proofs.Ytlnpflfkkjcopaa
