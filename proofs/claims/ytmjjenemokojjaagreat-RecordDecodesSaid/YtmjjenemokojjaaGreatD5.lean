/- Plain facts on countries and forms. Nothing of the program is imported. Letters, digits, marks, countries: the program's, and the document's own. Countries; a number against forms: the program's. Lines that may be. -/
import Derived.Lib.BitFns
import Derived.Test.YtmjjenemokojjaaGreatD1
import Derived.Deep.QuietTactic
import Derived.BigQuiet
import Derived.WalkSmall
import Derived.WalkMore
import Derived.ScopeJumps
import Derived.Test.YtmjjenemokojjaaGreatD4
namespace Go.Proofs.YtmjjenemokojjaaGreat.Vat
open Go
set_option maxRecDepth 100000

abbrev T := List UInt8
def letter (b : Nat) : Bool := decide (65 ≤ b) && decide (b ≤ 90)
def digit (b : Nat) : Bool := decide (48 ≤ b) && decide (b ≤ 57)
def country : T → Bool
 | [a, b] => letter a.toNat && letter b.toNat
 | _ => false
/-- a form's mark stands for a byte -/
def stands (f b : Nat) : Bool :=
 if f = 57 then digit b else if f = 65 then letter b else if f = 88 then letter b || digit b
 else if f = 43 then letter b || digit b || decide (b = 43) || decide (b = 42) else decide (b = f)
def fitT : T → T → Bool
 | [], [] => true
 | f :: l, b :: m => stands f.toNat b.toNat && fitT l m
 | _, _ => false
end Go.Proofs.YtmjjenemokojjaaGreat.Vat

namespace Go.Proofs.YtmjjenemokojjaaGreat
open Go.RowKit
set_option maxRecDepth 100000

theorem letter_yes {b : Nat} (h : 65 ≤ (b : Int)) : Vat.letter b = decide ((b : Int) ≤ 90) := by
 unfold Vat.letter
 rw [decide_eq_true (by omega : 65 ≤ b), Bool.true_and, Bool.eq_iff_iff, decide_eq_true_iff, decide_eq_true_iff]; omega
theorem letter_no {b : Nat} (h : ¬ 65 ≤ (b : Int)) : Vat.letter b = false := by
 unfold Vat.letter
 rw [decide_eq_false (by omega : ¬ 65 ≤ b), Bool.false_and]
theorem digit_yes {b : Nat} (h : 48 ≤ (b : Int)) : Vat.digit b = decide ((b : Int) ≤ 57) := by
 unfold Vat.digit
 rw [decide_eq_true (by omega : 48 ≤ b), Bool.true_and, Bool.eq_iff_iff, decide_eq_true_iff, decide_eq_true_iff]; omega
theorem digit_no {b : Nat} (h : ¬ 48 ≤ (b : Int)) : Vat.digit b = false := by
 unfold Vat.digit
 rw [decide_eq_false (by omega : ¬ 48 ≤ b), Bool.false_and]

theorem code_letter (b : Nat) (w : World) (h : b ≤ 255) : Calls Tryz.prog 59 #[.int .u8 b] w fun e w' => e = .returned (.bool (Vat.letter b)) ∧ w = w' := by
 have hb : (b : Int) ≤ 255 := by omega
 by_cases h0 : 65 ≤ (b : Int)
 · rw [letter_yes h0]
   go_enter Tryz.func59, Tryz.ntmps59
   go_wp2
   go_ret
   exact ⟨rfl, rfl⟩
 · rw [letter_no h0]
   go_enter Tryz.func59, Tryz.ntmps59
   go_wp2
   go_ret
   exact ⟨rfl, rfl⟩
theorem ref_letter (b : Nat) (w : World) (h : b ≤ 255) : Calls Tryz.prog 55 #[.int .u8 b] w fun e w' => e = .returned (.bool (Vat.letter b)) ∧ w = w' := by
 have hb : (b : Int) ≤ 255 := by omega
 by_cases h0 : 65 ≤ (b : Int)
 · rw [letter_yes h0]
   go_enter Tryz.func55, Tryz.ntmps55
   go_wp2
   go_ret
   exact ⟨rfl, rfl⟩
 · rw [letter_no h0]
   go_enter Tryz.func55, Tryz.ntmps55
   go_wp2
   go_ret
   exact ⟨rfl, rfl⟩
theorem code_digit (b : Nat) (w : World) (h : b ≤ 255) : Calls Tryz.prog 106 #[.int .u8 b] w fun e w' => e = .returned (.bool (Vat.digit b)) ∧ w = w' := by
 have hb : (b : Int) ≤ 255 := by omega
 by_cases h0 : 48 ≤ (b : Int)
 · rw [digit_yes h0]
   go_enter Tryz.func106, Tryz.ntmps106
   go_wp2
   go_ret
   exact ⟨rfl, rfl⟩
 · rw [digit_no h0]
   go_enter Tryz.func106, Tryz.ntmps106
   go_wp2
   go_ret
   exact ⟨rfl, rfl⟩
theorem ref_digit (b : Nat) (w : World) (h : b ≤ 255) : Calls Tryz.prog 56 #[.int .u8 b] w fun e w' => e = .returned (.bool (Vat.digit b)) ∧ w = w' := by
 have hb : (b : Int) ≤ 255 := by omega
 by_cases h0 : 48 ≤ (b : Int)
 · rw [digit_yes h0]
   go_enter Tryz.func56, Tryz.ntmps56
   go_wp2
   go_ret
   exact ⟨rfl, rfl⟩
 · rw [digit_no h0]
   go_enter Tryz.func56, Tryz.ntmps56
   go_wp2
   go_ret
   exact ⟨rfl, rfl⟩

/-- one of a mark's ways, in a form of its own -/
def wayA (b : Nat) : Bool := Vat.letter b || Vat.digit b
def wayP (b : Nat) : Bool := Vat.letter b || Vat.digit b || decide (b = 43) || decide (b = 42)
theorem stands_9 (b : Nat) : Vat.stands 57 b = Vat.digit b := rfl
theorem stands_A (b : Nat) : Vat.stands 65 b = Vat.letter b := rfl
theorem stands_X (b : Nat) : Vat.stands 88 b = wayA b := rfl
theorem stands_P (b : Nat) : Vat.stands 43 b = wayP b := rfl
theorem stands_o {f b : Nat} (h1 : f ≠ 57) (h2 : f ≠ 65) (h3 : f ≠ 88) (h4 : f ≠ 43) : Vat.stands f b = decide (b = f) := by
 unfold Vat.stands; rw [if_neg h1, if_neg h2, if_neg h3, if_neg h4]

set_option maxHeartbeats 1000000 in
theorem code_stands (f b : Nat) (w : World) (h : b ≤ 255) : Calls Tryz.prog 83 #[.int .u8 f, .int .u8 b] w fun e w' => e = .returned (.bool (Vat.stands f b)) ∧ w = w' := by
 by_cases h1 : f = 57
 · subst h1
   rw [stands_9]
   go_enter Tryz.func83, Tryz.ntmps83
   go_wp2_with (first
    | (go_at_call 59; refine (code_letter b w h).mono ?_; rintro e w1 ⟨rfl, rfl⟩)
    | (go_at_call 106; refine (code_digit b w h).mono ?_; rintro e w1 ⟨rfl, rfl⟩))
   go_ret
   exact ⟨rfl, rfl⟩
 by_cases h2 : f = 65
 · subst h2
   rw [stands_A]
   clear h1
   go_enter Tryz.func83, Tryz.ntmps83
   go_wp2_with (first
    | (go_at_call 59; refine (code_letter b w h).mono ?_; rintro e w1 ⟨rfl, rfl⟩)
    | (go_at_call 106; refine (code_digit b w h).mono ?_; rintro e w1 ⟨rfl, rfl⟩))
   go_ret
   exact ⟨rfl, rfl⟩
 by_cases h3 : f = 88
 · subst h3
   rw [stands_X]
   clear h1 h2
   unfold wayA
   cases hl : Vat.letter b
   · go_enter Tryz.func83, Tryz.ntmps83
     go_wp2_with (first
      | (go_at_call 59; refine (code_letter b w h).mono ?_; rintro e w1 ⟨rfl, rfl⟩)
      | (go_at_call 106; refine (code_digit b w h).mono ?_; rintro e w1 ⟨rfl, rfl⟩))
     go_ret
     exact ⟨rfl, rfl⟩
   · go_enter Tryz.func83, Tryz.ntmps83
     go_wp2_with (first
      | (go_at_call 59; refine (code_letter b w h).mono ?_; rintro e w1 ⟨rfl, rfl⟩)
      | (go_at_call 106; refine (code_digit b w h).mono ?_; rintro e w1 ⟨rfl, rfl⟩))
     go_ret
     exact ⟨rfl, rfl⟩
 by_cases h4 : f = 43
 · subst h4
   rw [stands_P]
   clear h1 h2 h3
   unfold wayP
   cases hl : Vat.letter b
   · cases hd : Vat.digit b
     · by_cases h5 : b = 43
       · have e5 : ((b : Int) == 43) = true := beq_iff_eq.2 (by omega)
         have hT : (false || false || decide (b = 43) || decide (b = 42)) = true := by simp [h5]
         rw [hT]
         clear h5 hT
         go_enter Tryz.func83, Tryz.ntmps83
         go_wp2_with (first
          | (go_at_call 59; refine (code_letter b w h).mono ?_; rintro e w1 ⟨rfl, rfl⟩)
          | (go_at_call 106; refine (code_digit b w h).mono ?_; rintro e w1 ⟨rfl, rfl⟩))
         go_ret
         exact ⟨rfl, rfl⟩
       · have e5 : ((b : Int) == 43) = false := beq_false_of_ne (by omega)
         have e6 : ((b : Int) == 42) = decide (b = 42) := by rw [Bool.eq_iff_iff, beq_iff_eq, decide_eq_true_iff]; omega
         rw [decide_eq_false h5]
         simp only [Bool.false_or, Bool.or_false]
         clear h5
         go_enter Tryz.func83, Tryz.ntmps83
         go_wp2_with (first
          | (go_at_call 59; refine (code_letter b w h).mono ?_; rintro e w1 ⟨rfl, rfl⟩)
          | (go_at_call 106; refine (code_digit b w h).mono ?_; rintro e w1 ⟨rfl, rfl⟩))
         go_ret
         exact ⟨rfl, rfl⟩
     · simp only [Bool.false_or, Bool.true_or]
       go_enter Tryz.func83, Tryz.ntmps83
       go_wp2_with (first
        | (go_at_call 59; refine (code_letter b w h).mono ?_; rintro e w1 ⟨rfl, rfl⟩)
        | (go_at_call 106; refine (code_digit b w h).mono ?_; rintro e w1 ⟨rfl, rfl⟩))
       go_ret
       exact ⟨rfl, rfl⟩
   · simp only [Bool.true_or]
     go_enter Tryz.func83, Tryz.ntmps83
     go_wp2_with (first
      | (go_at_call 59; refine (code_letter b w h).mono ?_; rintro e w1 ⟨rfl, rfl⟩)
      | (go_at_call 106; refine (code_digit b w h).mono ?_; rintro e w1 ⟨rfl, rfl⟩))
     go_ret
     exact ⟨rfl, rfl⟩
 rw [stands_o h1 h2 h3 h4]
 have e1 : ((f : Int) == 57) = false := beq_false_of_ne (by omega)
 have e2 : ((f : Int) == 65) = false := beq_false_of_ne (by omega)
 have e3 : ((f : Int) == 88) = false := beq_false_of_ne (by omega)
 have e4 : ((f : Int) == 43) = false := beq_false_of_ne (by omega)
 have e5 : ((b : Int) == (f : Int)) = decide (b = f) := by rw [Bool.eq_iff_iff, beq_iff_eq, decide_eq_true_iff]; omega
 clear h1 h2 h3 h4
 go_enter Tryz.func83, Tryz.ntmps83
 go_wp2_with (first
  | (go_at_call 59; refine (code_letter b w h).mono ?_; rintro e w1 ⟨rfl, rfl⟩)
  | (go_at_call 106; refine (code_digit b w h).mono ?_; rintro e w1 ⟨rfl, rfl⟩))
 go_ret
 exact ⟨rfl, rfl⟩

set_option maxHeartbeats 1000000 in
theorem ref_fits (f b : Nat) (w : World) (h : b ≤ 255) : Calls Tryz.prog 58 #[.int .u8 f, .int .u8 b] w fun e w' => e = .returned (.bool (Vat.stands f b)) ∧ w = w' := by
 by_cases h1 : f = 57
 · subst h1
   rw [stands_9]
   go_enter Tryz.func58, Tryz.ntmps58
   go_wp2_with (first
    | (go_at_call 55; refine (ref_letter b w h).mono ?_; rintro e w1 ⟨rfl, rfl⟩)
    | (go_at_call 56; refine (ref_digit b w h).mono ?_; rintro e w1 ⟨rfl, rfl⟩))
   go_ret
   exact ⟨rfl, rfl⟩
 by_cases h2 : f = 65
 · subst h2
   rw [stands_A]
   clear h1
   go_enter Tryz.func58, Tryz.ntmps58
   go_wp2_with (first
    | (go_at_call 55; refine (ref_letter b w h).mono ?_; rintro e w1 ⟨rfl, rfl⟩)
    | (go_at_call 56; refine (ref_digit b w h).mono ?_; rintro e w1 ⟨rfl, rfl⟩))
   go_ret
   exact ⟨rfl, rfl⟩
 by_cases h3 : f = 88
 · subst h3
   rw [stands_X]
   clear h1 h2
   unfold wayA
   cases hl : Vat.letter b
   · go_enter Tryz.func58, Tryz.ntmps58
     go_wp2_with (first
      | (go_at_call 55; refine (ref_letter b w h).mono ?_; rintro e w1 ⟨rfl, rfl⟩)
      | (go_at_call 56; refine (ref_digit b w h).mono ?_; rintro e w1 ⟨rfl, rfl⟩))
     go_ret
     exact ⟨rfl, rfl⟩
   · go_enter Tryz.func58, Tryz.ntmps58
     go_wp2_with (first
      | (go_at_call 55; refine (ref_letter b w h).mono ?_; rintro e w1 ⟨rfl, rfl⟩)
      | (go_at_call 56; refine (ref_digit b w h).mono ?_; rintro e w1 ⟨rfl, rfl⟩))
     go_ret
     exact ⟨rfl, rfl⟩
 by_cases h4 : f = 43
 · subst h4
   rw [stands_P]
   clear h1 h2 h3
   unfold wayP
   cases hl : Vat.letter b
   · cases hd : Vat.digit b
     · by_cases h5 : b = 43
       · have e5 : ((b : Int) == 43) = true := beq_iff_eq.2 (by omega)
         have hT : (false || false || decide (b = 43) || decide (b = 42)) = true := by simp [h5]
         rw [hT]
         clear h5 hT
         go_enter Tryz.func58, Tryz.ntmps58
         go_wp2_with (first
          | (go_at_call 55; refine (ref_letter b w h).mono ?_; rintro e w1 ⟨rfl, rfl⟩)
          | (go_at_call 56; refine (ref_digit b w h).mono ?_; rintro e w1 ⟨rfl, rfl⟩))
         go_ret
         exact ⟨rfl, rfl⟩
       · have e5 : ((b : Int) == 43) = false := beq_false_of_ne (by omega)
         have e6 : ((b : Int) == 42) = decide (b = 42) := by rw [Bool.eq_iff_iff, beq_iff_eq, decide_eq_true_iff]; omega
         rw [decide_eq_false h5]
         simp only [Bool.false_or, Bool.or_false]
         clear h5
         go_enter Tryz.func58, Tryz.ntmps58
         go_wp2_with (first
          | (go_at_call 55; refine (ref_letter b w h).mono ?_; rintro e w1 ⟨rfl, rfl⟩)
          | (go_at_call 56; refine (ref_digit b w h).mono ?_; rintro e w1 ⟨rfl, rfl⟩))
         go_ret
         exact ⟨rfl, rfl⟩
     · simp only [Bool.false_or, Bool.true_or]
       go_enter Tryz.func58, Tryz.ntmps58
       go_wp2_with (first
        | (go_at_call 55; refine (ref_letter b w h).mono ?_; rintro e w1 ⟨rfl, rfl⟩)
        | (go_at_call 56; refine (ref_digit b w h).mono ?_; rintro e w1 ⟨rfl, rfl⟩))
       go_ret
       exact ⟨rfl, rfl⟩
   · simp only [Bool.true_or]
     go_enter Tryz.func58, Tryz.ntmps58
     go_wp2_with (first
      | (go_at_call 55; refine (ref_letter b w h).mono ?_; rintro e w1 ⟨rfl, rfl⟩)
      | (go_at_call 56; refine (ref_digit b w h).mono ?_; rintro e w1 ⟨rfl, rfl⟩))
     go_ret
     exact ⟨rfl, rfl⟩
 rw [stands_o h1 h2 h3 h4]
 have e1 : ((f : Int) == 57) = false := beq_false_of_ne (by omega)
 have e2 : ((f : Int) == 65) = false := beq_false_of_ne (by omega)
 have e3 : ((f : Int) == 88) = false := beq_false_of_ne (by omega)
 have e4 : ((f : Int) == 43) = false := beq_false_of_ne (by omega)
 have e5 : ((f : Int) == (b : Int)) = decide (b = f) := by rw [Bool.eq_iff_iff, beq_iff_eq, decide_eq_true_iff]; omega
 clear h1 h2 h3 h4
 go_enter Tryz.func58, Tryz.ntmps58
 go_wp2_with (first
  | (go_at_call 55; refine (ref_letter b w h).mono ?_; rintro e w1 ⟨rfl, rfl⟩)
  | (go_at_call 56; refine (ref_digit b w h).mono ?_; rintro e w1 ⟨rfl, rfl⟩))
 go_ret
 exact ⟨rfl, rfl⟩
end Go.Proofs.YtmjjenemokojjaaGreat

namespace Go.Proofs.YtmjjenemokojjaaGreat
open Go.RowKit
set_option maxRecDepth 100000

theorem country_two {s : ByteArray} (h : s.size = 2) : Vat.country (strT s) = (Vat.letter (s[0]'(by omega)).toNat && Vat.letter (s[1]'(by omega)).toNat) := by
 obtain ⟨⟨l⟩⟩ := s
 match l, h with
 | [a, b], _ => rfl
theorem country_not {s : ByteArray} (h : s.size ≠ 2) : Vat.country (strT s) = false := by
 obtain ⟨⟨l⟩⟩ := s
 match l, h with
 | [], _ => rfl
 | [_], _ => rfl
 | [_, _], h => exact absurd rfl h
 | _ :: _ :: _ :: _, _ => rfl
theorem byte_le (b : UInt8) : b.toNat ≤ 255 := by have := b.toNat_lt; omega

theorem code_country (s : ByteArray) (w : World) (h : s.size ≤ 9223372036854775807) : Calls Tryz.prog 31 #[.string s] w fun e w' => e = .returned (.bool (Vat.country (strT s))) ∧ w = w' := by
 have h2 : (s.size : Int) ≤ 9223372036854775807 := by omega
 by_cases h0 : s.size = 2
 · rw [country_two h0]
   have h3 : (s.size : Int) = 2 := by omega
   cases h4 : Vat.letter (s[0]'(by omega)).toNat
   all_goals
    go_enter Tryz.func31, Tryz.ntmps31
    go_wp2_with (go_at_call 59; refine (code_letter _ w (byte_le _)).mono ?_; rintro e w1 ⟨rfl, rfl⟩)
    go_ret
    exact ⟨rfl, rfl⟩
 · rw [country_not h0]
   have h3 : ((s.size : Int) == 2) = false := beq_false_of_ne (by omega)
   clear h0
   go_enter Tryz.func31, Tryz.ntmps31
   go_wp2
   go_ret
   exact ⟨rfl, rfl⟩

theorem ref_country (s : ByteArray) (w : World) (h : s.size ≤ 9223372036854775807) : Calls Tryz.prog 36 #[.string s] w fun e w' => e = .returned (.bool (Vat.country (strT s))) ∧ w = w' := by
 have h2 : (s.size : Int) ≤ 9223372036854775807 := by omega
 by_cases h0 : s.size = 2
 · rw [country_two h0]
   have h3 : (s.size : Int) = 2 := by omega
   cases h4 : Vat.letter (s[0]'(by omega)).toNat
   all_goals
    go_enter Tryz.func36, Tryz.ntmps36
    go_wp2_with (go_at_call 55; refine (ref_letter _ w (byte_le _)).mono ?_; rintro e w1 ⟨rfl, rfl⟩)
    go_ret
    exact ⟨rfl, rfl⟩
 · rw [country_not h0]
   have h3 : ((s.size : Int) == 2) = false := beq_false_of_ne (by omega)
   clear h0
   go_enter Tryz.func36, Tryz.ntmps36
   go_wp2
   go_ret
   exact ⟨rfl, rfl⟩

/-- a slice of texts, as it lies -/
def Strs (w : World) (A : Option Addr) (L : List ByteArray) : Prop :=
 ∀ i (h : i < L.length), ∃ a, A = some a ∧ a.block < w.heap.size ∧ w.cell? (a.add i) = some (.string L[i]) ∧ L[i].size ≤ 1000
theorem Strs.below {w w' : World} {A : Option Addr} {L : List ByteArray} (h : Strs w A L) (hb : Below w.heap.size w w') : Strs w' A L := fun i hi => by
 obtain ⟨a, e, hbl, hc, h1⟩ := h i hi
 exact ⟨a, e, Nat.lt_of_lt_of_le hbl hb.size, (hb.cell (by rw [add_block]; exact hbl)).trans hc, h1⟩
/-- byte by byte, up to there -/
theorem fit_iff : ∀ (f n : List UInt8), Vat.fitT f n = true ↔ f.length = n.length ∧ ∀ i (h : i < f.length) (h2 : i < n.length), Vat.stands f[i].toNat n[i].toNat = true
 | [], [] => by simp [Vat.fitT]
 | [], _ :: _ => by simp [Vat.fitT]
 | _ :: _, [] => by simp [Vat.fitT]
 | x :: f, y :: n => by
   rw [Vat.fitT, Bool.and_eq_true, fit_iff f n]
   constructor
   · rintro ⟨h1, h2, h3⟩
     refine ⟨by simp [h2], fun i h4 h5 => ?_⟩
     cases i with
     | zero => exact h1
     | succ i => exact h3 i (by simpa using h4) (by simpa using h5)
   · rintro ⟨h1, h2⟩
     refine ⟨h2 0 (by simp) (by simp), by simpa using h1, fun i h4 h5 => h2 (i + 1) (by simpa using h4) (by simpa using h5)⟩
theorem fit_len {f n : ByteArray} (h : f.size ≠ n.size) : Vat.fitT (strT f) (strT n) = false := by
 rw [← Bool.not_eq_true, fit_iff]
 intro h2
 exact h h2.1
theorem fit_not {f n : ByteArray} {j : Nat} (hj : j < f.size) (hj2 : j < n.size) (hs : Vat.stands (f[j]).toNat (n[j]).toNat = false) : Vat.fitT (strT f) (strT n) = false := by
 rw [← Bool.not_eq_true, fit_iff]
 intro h2
 have h3 : Vat.stands (f[j]).toNat (n[j]).toNat = true := h2.2 j hj hj2
 rw [hs] at h3
 cases h3
theorem fit_yes {f n : ByteArray} (h : f.size = n.size) (hs : ∀ j (hj : j < f.size) (hj2 : j < n.size), Vat.stands (f[j]).toNat (n[j]).toNat = true) : Vat.fitT (strT f) (strT n) = true := by
 rw [fit_iff]
 exact ⟨h, fun i h1 h2 => hs i h1 h2⟩
theorem any_take {L : List ByteArray} {p : ByteArray → Bool} {k : Nat} (h : k < L.length) (h1 : (L.take k).any p = false) (h2 : p L[k] = false) : (L.take (k + 1)).any p = false := by
 rw [List.take_succ_eq_append_getElem h, List.any_append, h1, Bool.false_or]
 simp [h2]
theorem any_yes {L : List ByteArray} {p : ByteArray → Bool} {k : Nat} (h : k < L.length) (h2 : p L[k] = true) : L.any p = true :=
 List.any_eq_true.2 ⟨_, List.getElem_mem h, h2⟩

theorem code_standsS (x y : UInt8) (w : World) : Calls Tryz.prog 83 #[.int .u8 (x.toNat : Int), .int .u8 (y.toNat : Int)] w fun e w' => e = .returned (.bool (Vat.stands x.toNat y.toNat)) ∧ w' = w :=
 (code_stands _ _ _ (byte_le _)).mono fun _ _ h => ⟨h.1, h.2.symm⟩
/-- a scope whose jumps go on to its end alone -/
theorem wp_scope_on {P : Program} {a : Act} {w : World} {Q : Exit → Act → World → Prop} {c rest : Code} (l : Nat) (hf : findLabel c l = some rest) (hr : ∀ (Q' : Exit → Act → World → Prop) a w, Q' .normal a w → rest.wp P Q' a w)
 (first : c.wp P (Exit.jump l (Q .normal) Q) a w) : (Code.scope c).wp P Q a w :=
 wp_scope_jumps l (Q .normal) (fun _ _ => 0) hf first fun _ _ h => hr _ _ _ h
set_option maxHeartbeats 2000000 in
theorem code_isOneOf (L : List ByteArray) (A : Option Addr) (c : Nat) (n : ByteArray) (w : World) (hL : L.length ≤ 1000) (hn : n.size ≤ 9223372036854775807) (hS : Strs w A L) :
 Calls Tryz.prog 60 #[.slice A L.length c, .string n] w fun e w' => e = .returned (.bool (L.any fun f => Vat.fitT (strT f) (strT n))) ∧ Below w.heap.size w w' := by
 have HS := Lib.hid hS
 have h1 : (L.length : Int) ≤ 1000 := by omega
 have h2 : (n.size : Int) ≤ 9223372036854775807 := by omega
 clear hS
 go_enter Tryz.func60, Tryz.ntmps60
 go_wp2
 go_loopw [10] (fun i wr => ∃ k : Nat, k ≤ L.length ∧ i = .int .i64 k ∧ Hid ((L.take k).any (fun f => Vat.fitT (strT f) (strT n)) = false) ∧ Hid (Below w.heap.size w wr)) (fun i _ => L.length - (intOf i).toNat)
 case atStart => exact ⟨0, Nat.zero_le _, rfl, Lib.hid rfl, Lib.hid (Below.refl _ _)⟩
 case round =>
  obtain ⟨k, hk, rfl, HF, HB⟩ := hrel
  by_cases hlt : k < L.length
  · obtain ⟨a, rfl, hbl, hc, hz⟩ := (HS.out.below HB.out) k hlt
    have HN := Lib.hid (fun h => any_take hlt HF.out h)
    have HY := Lib.hid (any_yes (p := fun f => Vat.fitT (strT f) (strT n)) hlt)
    obtain ⟨o, ho⟩ : ∃ o, o = L[k] := ⟨_, rfl⟩
    rw [← ho] at hc hz
    have HO := Lib.hid ho
    have hz2 : (o.size : Int) ≤ 1000 := by omega
    clear ho
    by_cases hlen : o.size = n.size
    · have hleni : (o.size : Int) = (n.size : Int) := by omega
      have HL := Lib.hid hlen
      have HYY := Lib.hid (fun hs => HY.out (by rw [← HO.out]; exact fit_yes hlen hs))
      have HNN : Hid (∀ j (hj : j < o.size) (hj2 : j < n.size), Vat.stands (o[j]).toNat (n[j]).toNat = false → (L.take (k + 1)).any (fun f => Vat.fitT (strT f) (strT n)) = false) := Lib.hid (fun j hj hj2 hs => HN.out (by rw [← HO.out]; exact fit_not hj hj2 hs))
      have hon : (o.size : Int) ≤ (n.size : Int) := by omega
      clear hlen
      go_wp2
      refine wp_scope_on 0 rfl (fun Q' a w h => wp_skip h) ?_
      go_wp2
      go_loopw [21] (fun i ws => ∃ j : Nat, j ≤ o.size ∧ i = .int .i64 j ∧ Hid (∀ i2 (h : i2 < o.size) (h2 : i2 < n.size), i2 < j → Vat.stands (o[i2]).toNat (n[i2]).toNat = true) ∧ Hid (Below w.heap.size w ws)) (fun i _ => o.size - (intOf i).toNat)
      case atStart => exact ⟨0, Nat.zero_le _, rfl, Lib.hid (fun _ _ _ h => absurd h (by omega)), HB⟩
      case round =>
       obtain ⟨j, hj, rfl, HJ, HB2⟩ := hrel
       by_cases hjl : j < o.size
       · have hjn : j < n.size := by have := HL.out; omega
         have hji : (j : Int) < (n.size : Int) := by omega
         have hji2 : (j : Int) < (o.size : Int) := by omega
         cases hst : Vat.stands (o[j]).toNat (n[j]).toNat with
         | true =>
           have HJ2 : Hid (∀ i2 (h : i2 < o.size) (h2 : i2 < n.size), i2 < j + 1 → Vat.stands (o[i2]).toNat (n[i2]).toNat = true) := Lib.hid (fun i2 h h2 h3 => by
            rcases Nat.lt_or_ge i2 j with h4 | h4
            · exact HJ.out i2 h h2 h4
            · obtain rfl : i2 = j := by omega
              exact hst)
           go_wp2
           go_quiet (first | (go_at_call 83; refine Calls.quiet_of_same (code_standsS _ _ _)))
           go_wp2
           go_roundw
           case rel => exact ⟨j + 1, by omega, by go_num, HJ2, Lib.hid (below_drewN HB2.out _)⟩
           case measure => simp [intOf]; omega
         | false =>
           have HN2 := Lib.hid (HNN.out j hjl hjn hst)
           go_wp2
           go_quiet (first | (go_at_call 83; refine Calls.quiet_of_same (code_standsS _ _ _)))
           go_wp2
           go_step3
           simp only [Exit.inBlock, Exit.then]
           refine And.intro rfl ?_
           simp only [Exit.inBlock, Exit.then]
           go_wp2
           go_roundw
           case rel => exact ⟨k + 1, by omega, by go_num, HN2, Lib.hid (below_drewN HB2.out _)⟩
           case measure => simp [intOf]; omega
       · obtain rfl : j = o.size := by omega
         have HY2 := Lib.hid (HYY.out (fun i2 h h2 => HJ.out i2 h h2 h))
         go_wp2
         simp only [Exit.jump, Exit.inBlock, Exit.then]
         go_wp2
         go_ret
         exact ⟨by rw [HY2.out]; rfl, HB2.out⟩
    · have hl2 : ((o.size : Int) == (n.size : Int)) = false := beq_false_of_ne (by omega)
      have HN2 := Lib.hid (HN.out (by rw [← HO.out]; exact fit_len hlen))
      clear hlen
      go_wp2
      refine wp_scope_on 0 rfl (fun Q' a w h => wp_skip h) ?_
      go_wp2
      simp only [Exit.jump, Exit.inBlock, Exit.then]
      go_wp2
      go_roundw
      case rel => exact ⟨k + 1, by omega, by go_num, HN2, HB⟩
      case measure => simp [intOf]; omega
  · obtain rfl : k = L.length := by omega
    have HF2 : Hid ((L.any fun f => Vat.fitT (strT f) (strT n)) = false) := Lib.hid (by have := HF.out; rwa [List.take_length] at this)
    go_wp2
    go_ret
    exact ⟨by rw [HF2.out]; rfl, HB.out⟩
end Go.Proofs.YtmjjenemokojjaaGreat

namespace Go.Proofs.YtmjjenemokojjaaGreat
open Go.RowKit
set_option maxRecDepth 100000

def inB (n a b : Int) : Bool := decide (a ≤ n) && decide (n ≤ b)
def placeB (s : ByteArray) : Bool := Vat.country (strT s)
def noneB (s : ByteArray) : Bool := s.toList.isEmpty
/-- has a line what lines of its supply have, and nothing else? -/
def supB (su : Int) (fr to_ pl : ByteArray) (gr : Bool) (co : Int) : Bool :=
 if su = 7 then gr && (placeB fr && placeB to_ && noneB pl)
 else (co == 0) && (if su = 1 then placeB fr && placeB to_ && noneB pl
  else if su = 3 ∨ su = 4 ∨ su = 5 then noneB fr && noneB to_ && placeB pl
  else if su = 2 ∨ su = 6 then noneB fr && noneB to_ && noneB pl
  else false)
def lineGood (l : LineV) (sale : Bool) : Bool :=
 supB l.1 l.2.2.1 l.2.2.2.1 l.2.2.2.2.1 l.2.2.2.2.2.2.1 l.2.2.2.2.2.2.2.1 && inB l.2.1 1 5 && inB l.2.2.2.2.2.1 0 1099511627776 && inB l.2.2.2.2.2.2.2.1 0 1099511627776 && !(sale && l.2.2.2.2.2.2.2.2)
theorem code_isFrom (n a b : Int) (w : World) : Calls Tryz.prog 29 #[.int .i64 n, .int .i64 a, .int .i64 b] w fun e w' => e = .returned (.bool (inB n a b)) ∧ w = w' := by
 unfold inB
 by_cases h1 : a ≤ n <;> by_cases h2 : n ≤ b
 all_goals
  go_enter Tryz.func29, Tryz.ntmps29
  go_wp2
  go_ret
  exact ⟨ret_bool (by simp [h1, h2]), rfl⟩
theorem ref_in (n a b : Int) (w : World) : Calls Tryz.prog 24 #[.int .i64 n, .int .i64 a, .int .i64 b] w fun e w' => e = .returned (.bool (inB n a b)) ∧ w = w' := by
 unfold inB
 by_cases h1 : a ≤ n <;> by_cases h2 : n ≤ b
 all_goals
  go_enter Tryz.func24, Tryz.ntmps24
  go_wp2
  go_ret
  exact ⟨ret_bool (by simp [h1, h2]), rfl⟩
set_option maxHeartbeats 4000000 in
theorem code_isSupplied (su ca : Int) (fr to_ pl : ByteArray) (am : Int) (gr : Bool) (co : Int) (mi : Bool) (w : World) (hf : fr.size ≤ 140737488351232) (ht : to_.size ≤ 140737488351232) (hp : pl.size ≤ 140737488351232) (V : Bool) (hV : supB su fr to_ pl gr co = V) :
 Calls Tryz.prog 37 #[.agg #[.int .i64 su, .int .i64 ca, .string fr, .string to_, .string pl, .int .i64 am, .bool gr, .int .i64 co, .bool mi]] w fun e w' => e = .returned (.bool V) ∧ Below w.heap.size w w' := by
 have HA : Hid (∀ (s : ByteArray) (_ : s.size ≤ 140737488351232) (W : World), Calls Tryz.prog 31 #[.string s] W fun e w' => e = .returned (.bool (placeB s)) ∧ W = w') := Lib.hid (fun s hs W => code_country s W (by omega))
 unfold supB at hV
 by_cases s7 : su = 7
 · rw [if_pos s7] at hV
   subst s7
   cases gr with
   | false =>
     simp only [Bool.false_and] at hV
     subst hV
     go_enter Tryz.func37, Tryz.ntmps37
     go_wp2
     go_ret
     exact ⟨by first | rfl | simp, below_alloc _ _⟩
   | true =>
     simp only [Bool.true_and] at hV
     cases h1 : placeB fr with
     | false =>
       rw [h1] at hV; simp only [Bool.false_and] at hV; subst hV
       go_enter Tryz.func37, Tryz.ntmps37
       go_wp2_with (go_at_call 31; refine (HA.out _ (by assumption) _).mono ?_; rintro e w1 ⟨rfl, rfl⟩)
       go_ret
       exact ⟨by first | rfl | simp, below_alloc _ _⟩
     | true =>
       rw [h1] at hV; simp only [Bool.true_and] at hV
       cases h2 : placeB to_ with
       | false =>
         rw [h2] at hV; simp only [Bool.false_and] at hV; subst hV
         go_enter Tryz.func37, Tryz.ntmps37
         go_wp2_with (go_at_call 31; refine (HA.out _ (by assumption) _).mono ?_; rintro e w1 ⟨rfl, rfl⟩)
         go_ret
         exact ⟨by first | rfl | simp, below_alloc _ _⟩
       | true =>
         rw [h2] at hV; simp only [Bool.true_and] at hV
         unfold noneB at hV; subst hV
         go_enter Tryz.func37, Tryz.ntmps37
         go_wp2_with (go_at_call 31; refine (HA.out _ (by assumption) _).mono ?_; rintro e w1 ⟨rfl, rfl⟩)
         go_ret
         exact ⟨by first | rfl | simp, below_alloc _ _⟩
 · rw [if_neg s7] at hV
   have s7' : (su == 7) = false := beq_false_of_ne s7
   have n7 : (su != 7) = true := bne_iff_ne.2 s7
   by_cases hc0 : ¬ co = 0
   · have hc : (co == 0) = false := beq_false_of_ne hc0
     have nc : (co != 0) = true := bne_iff_ne.2 hc0
     rw [hc] at hV
     simp only [Bool.false_and] at hV
     subst hV
     go_enter Tryz.func37, Tryz.ntmps37
     go_wp2
     go_ret
     exact ⟨by first | rfl | simp, below_alloc _ _⟩
   · obtain rfl : co = 0 := Decidable.not_not.1 hc0
     clear hc0
     rw [show ((0 : Int) == 0) = true from rfl] at hV
     simp only [Bool.true_and] at hV
     by_cases s1 : su = 1
     · subst s1
       rw [if_pos rfl] at hV
       clear s7' s7 n7
       cases h1 : placeB fr with
       | false =>
         rw [h1] at hV; simp only [Bool.false_and] at hV; subst hV
         go_enter Tryz.func37, Tryz.ntmps37
         go_wp2_with (go_at_call 31; refine (HA.out _ (by assumption) _).mono ?_; rintro e w1 ⟨rfl, rfl⟩)
         go_ret
         exact ⟨by first | rfl | simp, below_alloc _ _⟩
       | true =>
         rw [h1] at hV; simp only [Bool.true_and] at hV
         cases h2 : placeB to_ with
         | false =>
           rw [h2] at hV; simp only [Bool.false_and] at hV; subst hV
           go_enter Tryz.func37, Tryz.ntmps37
           go_wp2_with (go_at_call 31; refine (HA.out _ (by assumption) _).mono ?_; rintro e w1 ⟨rfl, rfl⟩)
           go_ret
           exact ⟨by first | rfl | simp, below_alloc _ _⟩
         | true =>
           rw [h2] at hV; simp only [Bool.true_and] at hV
           unfold noneB at hV; subst hV
           go_enter Tryz.func37, Tryz.ntmps37
           go_wp2_with (go_at_call 31; refine (HA.out _ (by assumption) _).mono ?_; rintro e w1 ⟨rfl, rfl⟩)
           go_ret
           exact ⟨by first | rfl | simp, below_alloc _ _⟩
     rw [if_neg s1] at hV
     by_cases s345 : su = 3 ∨ su = 4 ∨ su = 5
     · rw [if_pos s345] at hV
       clear s1 s7' s7 n7
       rcases s345 with rfl | rfl | rfl
       ·
        cases h1 : noneB fr with
        | false =>
          rw [h1] at hV; unfold noneB at h1; simp only [Bool.false_and] at hV; subst hV
          go_enter Tryz.func37, Tryz.ntmps37
          go_wp2
          go_ret
          exact ⟨by first | rfl | simp, below_alloc _ _⟩
        | true =>
          rw [h1] at hV; unfold noneB at h1; simp only [Bool.true_and] at hV
          cases h2 : noneB to_ with
          | false =>
            rw [h2] at hV; unfold noneB at h2; simp only [Bool.false_and] at hV; subst hV
            go_enter Tryz.func37, Tryz.ntmps37
            go_wp2
            go_ret
            exact ⟨by first | rfl | simp, below_alloc _ _⟩
          | true =>
            rw [h2] at hV; unfold noneB at h2; simp only [Bool.true_and] at hV
            subst hV
            go_enter Tryz.func37, Tryz.ntmps37
            go_wp2_with (go_at_call 31; refine (HA.out _ (by assumption) _).mono ?_; rintro e w1 ⟨rfl, rfl⟩)
            go_ret
            exact ⟨by first | rfl | simp, below_alloc _ _⟩
       ·
        cases h1 : noneB fr with
        | false =>
          rw [h1] at hV; unfold noneB at h1; simp only [Bool.false_and] at hV; subst hV
          go_enter Tryz.func37, Tryz.ntmps37
          go_wp2
          go_ret
          exact ⟨by first | rfl | simp, below_alloc _ _⟩
        | true =>
          rw [h1] at hV; unfold noneB at h1; simp only [Bool.true_and] at hV
          cases h2 : noneB to_ with
          | false =>
            rw [h2] at hV; unfold noneB at h2; simp only [Bool.false_and] at hV; subst hV
            go_enter Tryz.func37, Tryz.ntmps37
            go_wp2
            go_ret
            exact ⟨by first | rfl | simp, below_alloc _ _⟩
          | true =>
            rw [h2] at hV; unfold noneB at h2; simp only [Bool.true_and] at hV
            subst hV
            go_enter Tryz.func37, Tryz.ntmps37
            go_wp2_with (go_at_call 31; refine (HA.out _ (by assumption) _).mono ?_; rintro e w1 ⟨rfl, rfl⟩)
            go_ret
            exact ⟨by first | rfl | simp, below_alloc _ _⟩
       ·
        cases h1 : noneB fr with
        | false =>
          rw [h1] at hV; unfold noneB at h1; simp only [Bool.false_and] at hV; subst hV
          go_enter Tryz.func37, Tryz.ntmps37
          go_wp2
          go_ret
          exact ⟨by first | rfl | simp, below_alloc _ _⟩
        | true =>
          rw [h1] at hV; unfold noneB at h1; simp only [Bool.true_and] at hV
          cases h2 : noneB to_ with
          | false =>
            rw [h2] at hV; unfold noneB at h2; simp only [Bool.false_and] at hV; subst hV
            go_enter Tryz.func37, Tryz.ntmps37
            go_wp2
            go_ret
            exact ⟨by first | rfl | simp, below_alloc _ _⟩
          | true =>
            rw [h2] at hV; unfold noneB at h2; simp only [Bool.true_and] at hV
            subst hV
            go_enter Tryz.func37, Tryz.ntmps37
            go_wp2_with (go_at_call 31; refine (HA.out _ (by assumption) _).mono ?_; rintro e w1 ⟨rfl, rfl⟩)
            go_ret
            exact ⟨by first | rfl | simp, below_alloc _ _⟩
     rw [if_neg s345] at hV
     by_cases s26 : su = 2 ∨ su = 6
     · rw [if_pos s26] at hV
       clear s1 s7' s7 n7 s345
       rcases s26 with rfl | rfl
       ·
        cases h1 : noneB fr with
        | false =>
          rw [h1] at hV; unfold noneB at h1; simp only [Bool.false_and] at hV; subst hV
          go_enter Tryz.func37, Tryz.ntmps37
          go_wp2
          go_ret
          exact ⟨by first | rfl | simp, below_alloc _ _⟩
        | true =>
          rw [h1] at hV; unfold noneB at h1; simp only [Bool.true_and] at hV
          cases h2 : noneB to_ with
          | false =>
            rw [h2] at hV; unfold noneB at h2; simp only [Bool.false_and] at hV; subst hV
            go_enter Tryz.func37, Tryz.ntmps37
            go_wp2
            go_ret
            exact ⟨by first | rfl | simp, below_alloc _ _⟩
          | true =>
            rw [h2] at hV; unfold noneB at h2; simp only [Bool.true_and] at hV
            unfold noneB at hV; subst hV
            go_enter Tryz.func37, Tryz.ntmps37
            go_wp2
            go_ret
            exact ⟨by first | rfl | simp, below_alloc _ _⟩
       ·
        cases h1 : noneB fr with
        | false =>
          rw [h1] at hV; unfold noneB at h1; simp only [Bool.false_and] at hV; subst hV
          go_enter Tryz.func37, Tryz.ntmps37
          go_wp2
          go_ret
          exact ⟨by first | rfl | simp, below_alloc _ _⟩
        | true =>
          rw [h1] at hV; unfold noneB at h1; simp only [Bool.true_and] at hV
          cases h2 : noneB to_ with
          | false =>
            rw [h2] at hV; unfold noneB at h2; simp only [Bool.false_and] at hV; subst hV
            go_enter Tryz.func37, Tryz.ntmps37
            go_wp2
            go_ret
            exact ⟨by first | rfl | simp, below_alloc _ _⟩
          | true =>
            rw [h2] at hV; unfold noneB at h2; simp only [Bool.true_and] at hV
            unfold noneB at hV; subst hV
            go_enter Tryz.func37, Tryz.ntmps37
            go_wp2
            go_ret
            exact ⟨by first | rfl | simp, below_alloc _ _⟩
     rw [if_neg s26] at hV
     subst hV
     have e1 : (su == 1) = false := beq_false_of_ne s1
     have e2 : (su == 2) = false := beq_false_of_ne (by omega)
     have e3 : (su == 3) = false := beq_false_of_ne (by omega)
     have e4 : (su == 4) = false := beq_false_of_ne (by omega)
     have e5 : (su == 5) = false := beq_false_of_ne (by omega)
     have e6 : (su == 6) = false := beq_false_of_ne (by omega)
     clear s345 s26
     go_enter Tryz.func37, Tryz.ntmps37
     go_wp2
     go_ret
     exact ⟨by first | rfl | simp, below_alloc _ _⟩
end Go.Proofs.YtmjjenemokojjaaGreat
