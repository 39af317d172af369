/- Letters, digits, marks, countries: the program's, and the document's own. -/
import Derived.Test.YtjanhgekocpobaaVatMath
import Derived.Test.YtjanhgekocpobaaBlobText
namespace Go.Proofs.Ytjanhgekocpobaa
open Go.RowKit
set_option maxRecDepth 100000

theorem letter_yes {b : Nat} (h : 65 ≤ (b : Int)) : Vat.letter b = decide ((b : Int) ≤ 90) := by
  unfold Vat.letter
  rw [decide_eq_true (by omega : 65 ≤ b), Bool.true_and, Bool.eq_iff_iff, decide_eq_true_iff, decide_eq_true_iff]; omega
theorem letter_no {b : Nat} (h : ¬ 65 ≤ (b : Int)) : Vat.letter b = false := by
  unfold Vat.letter
  rw [decide_eq_false (by omega : ¬ 65 ≤ b), Bool.false_and]
theorem digit_yes {b : Nat} (h : 48 ≤ (b : Int)) : Vat.digit b = decide ((b : Int) ≤ 57) := by
  unfold Vat.digit
  rw [decide_eq_true (by omega : 48 ≤ b), Bool.true_and, Bool.eq_iff_iff, decide_eq_true_iff, decide_eq_true_iff]; omega
theorem digit_no {b : Nat} (h : ¬ 48 ≤ (b : Int)) : Vat.digit b = false := by
  unfold Vat.digit
  rw [decide_eq_false (by omega : ¬ 48 ≤ b), Bool.false_and]

theorem code_letter (b : Nat) (w : World) (h : b ≤ 255) : Calls Try.prog 50 #[.int .u8 b] w fun e w' => e = .returned (.bool (Vat.letter b)) ∧ w = w' := by
  have hb : (b : Int) ≤ 255 := by omega
  by_cases h0 : 65 ≤ (b : Int)
  · rw [letter_yes h0]
    go_enter Try.func50, Try.ntmps50
    go_wp2
    go_ret
    exact ⟨rfl, rfl⟩
  · rw [letter_no h0]
    go_enter Try.func50, Try.ntmps50
    go_wp2
    go_ret
    exact ⟨rfl, rfl⟩
theorem ref_letter (b : Nat) (w : World) (h : b ≤ 255) : Calls Try.prog 45 #[.int .u8 b] w fun e w' => e = .returned (.bool (Vat.letter b)) ∧ w = w' := by
  have hb : (b : Int) ≤ 255 := by omega
  by_cases h0 : 65 ≤ (b : Int)
  · rw [letter_yes h0]
    go_enter Try.func45, Try.ntmps45
    go_wp2
    go_ret
    exact ⟨rfl, rfl⟩
  · rw [letter_no h0]
    go_enter Try.func45, Try.ntmps45
    go_wp2
    go_ret
    exact ⟨rfl, rfl⟩
theorem code_digit (b : Nat) (w : World) (h : b ≤ 255) : Calls Try.prog 71 #[.int .u8 b] w fun e w' => e = .returned (.bool (Vat.digit b)) ∧ w = w' := by
  have hb : (b : Int) ≤ 255 := by omega
  by_cases h0 : 48 ≤ (b : Int)
  · rw [digit_yes h0]
    go_enter Try.func71, Try.ntmps71
    go_wp2
    go_ret
    exact ⟨rfl, rfl⟩
  · rw [digit_no h0]
    go_enter Try.func71, Try.ntmps71
    go_wp2
    go_ret
    exact ⟨rfl, rfl⟩
theorem ref_digit (b : Nat) (w : World) (h : b ≤ 255) : Calls Try.prog 47 #[.int .u8 b] w fun e w' => e = .returned (.bool (Vat.digit b)) ∧ w = w' := by
  have hb : (b : Int) ≤ 255 := by omega
  by_cases h0 : 48 ≤ (b : Int)
  · rw [digit_yes h0]
    go_enter Try.func47, Try.ntmps47
    go_wp2
    go_ret
    exact ⟨rfl, rfl⟩
  · rw [digit_no h0]
    go_enter Try.func47, Try.ntmps47
    go_wp2
    go_ret
    exact ⟨rfl, rfl⟩

/-- one of a mark's ways, in a form of its own -/
def wayA (b : Nat) : Bool := Vat.letter b || Vat.digit b
def wayP (b : Nat) : Bool := Vat.letter b || Vat.digit b || decide (b = 43) || decide (b = 42)
theorem stands_9 (b : Nat) : Vat.stands 57 b = Vat.digit b := rfl
theorem stands_A (b : Nat) : Vat.stands 65 b = Vat.letter b := rfl
theorem stands_X (b : Nat) : Vat.stands 88 b = wayA b := rfl
theorem stands_P (b : Nat) : Vat.stands 43 b = wayP b := rfl
theorem stands_o {f b : Nat} (h1 : f ≠ 57) (h2 : f ≠ 65) (h3 : f ≠ 88) (h4 : f ≠ 43) : Vat.stands f b = decide (b = f) := by
  unfold Vat.stands; rw [if_neg h1, if_neg h2, if_neg h3, if_neg h4]

set_option maxHeartbeats 1000000 in
theorem code_stands (f b : Nat) (w : World) (h : b ≤ 255) : Calls Try.prog 61 #[.int .u8 f, .int .u8 b] w fun e w' => e = .returned (.bool (Vat.stands f b)) ∧ w = w' := by
  by_cases h1 : f = 57
  · subst h1
    rw [stands_9]
    go_enter Try.func61, Try.ntmps61
    go_wp2_with (first
      | (go_at_call 50; refine (code_letter b w h).mono ?_; rintro e w1 ⟨rfl, rfl⟩)
      | (go_at_call 71; refine (code_digit b w h).mono ?_; rintro e w1 ⟨rfl, rfl⟩))
    go_ret
    exact ⟨rfl, rfl⟩
  by_cases h2 : f = 65
  · subst h2
    rw [stands_A]
    clear h1
    go_enter Try.func61, Try.ntmps61
    go_wp2_with (first
      | (go_at_call 50; refine (code_letter b w h).mono ?_; rintro e w1 ⟨rfl, rfl⟩)
      | (go_at_call 71; refine (code_digit b w h).mono ?_; rintro e w1 ⟨rfl, rfl⟩))
    go_ret
    exact ⟨rfl, rfl⟩
  by_cases h3 : f = 88
  · subst h3
    rw [stands_X]
    clear h1 h2
    unfold wayA
    cases hl : Vat.letter b
    · go_enter Try.func61, Try.ntmps61
      go_wp2_with (first
        | (go_at_call 50; refine (code_letter b w h).mono ?_; rintro e w1 ⟨rfl, rfl⟩)
        | (go_at_call 71; refine (code_digit b w h).mono ?_; rintro e w1 ⟨rfl, rfl⟩))
      go_ret
      exact ⟨rfl, rfl⟩
    · go_enter Try.func61, Try.ntmps61
      go_wp2_with (first
        | (go_at_call 50; refine (code_letter b w h).mono ?_; rintro e w1 ⟨rfl, rfl⟩)
        | (go_at_call 71; refine (code_digit b w h).mono ?_; rintro e w1 ⟨rfl, rfl⟩))
      go_ret
      exact ⟨rfl, rfl⟩
  by_cases h4 : f = 43
  · subst h4
    rw [stands_P]
    clear h1 h2 h3
    unfold wayP
    cases hl : Vat.letter b
    · cases hd : Vat.digit b
      · by_cases h5 : b = 43
        · have e5 : ((b : Int) == 43) = true := beq_iff_eq.2 (by omega)
          have hT : (false || false || decide (b = 43) || decide (b = 42)) = true := by simp [h5]
          rw [hT]
          clear h5 hT
          go_enter Try.func61, Try.ntmps61
          go_wp2_with (first
            | (go_at_call 50; refine (code_letter b w h).mono ?_; rintro e w1 ⟨rfl, rfl⟩)
            | (go_at_call 71; refine (code_digit b w h).mono ?_; rintro e w1 ⟨rfl, rfl⟩))
          go_ret
          exact ⟨rfl, rfl⟩
        · have e5 : ((b : Int) == 43) = false := beq_false_of_ne (by omega)
          have e6 : ((b : Int) == 42) = decide (b = 42) := by rw [Bool.eq_iff_iff, beq_iff_eq, decide_eq_true_iff]; omega
          rw [decide_eq_false h5]
          simp only [Bool.false_or, Bool.or_false]
          clear h5
          go_enter Try.func61, Try.ntmps61
          go_wp2_with (first
            | (go_at_call 50; refine (code_letter b w h).mono ?_; rintro e w1 ⟨rfl, rfl⟩)
            | (go_at_call 71; refine (code_digit b w h).mono ?_; rintro e w1 ⟨rfl, rfl⟩))
          go_ret
          exact ⟨rfl, rfl⟩
      · simp only [Bool.false_or, Bool.true_or]
        go_enter Try.func61, Try.ntmps61
        go_wp2_with (first
          | (go_at_call 50; refine (code_letter b w h).mono ?_; rintro e w1 ⟨rfl, rfl⟩)
          | (go_at_call 71; refine (code_digit b w h).mono ?_; rintro e w1 ⟨rfl, rfl⟩))
        go_ret
        exact ⟨rfl, rfl⟩
    · simp only [Bool.true_or]
      go_enter Try.func61, Try.ntmps61
      go_wp2_with (first
        | (go_at_call 50; refine (code_letter b w h).mono ?_; rintro e w1 ⟨rfl, rfl⟩)
        | (go_at_call 71; refine (code_digit b w h).mono ?_; rintro e w1 ⟨rfl, rfl⟩))
      go_ret
      exact ⟨rfl, rfl⟩
  rw [stands_o h1 h2 h3 h4]
  have e1 : ((f : Int) == 57) = false := beq_false_of_ne (by omega)
  have e2 : ((f : Int) == 65) = false := beq_false_of_ne (by omega)
  have e3 : ((f : Int) == 88) = false := beq_false_of_ne (by omega)
  have e4 : ((f : Int) == 43) = false := beq_false_of_ne (by omega)
  have e5 : ((b : Int) == (f : Int)) = decide (b = f) := by rw [Bool.eq_iff_iff, beq_iff_eq, decide_eq_true_iff]; omega
  clear h1 h2 h3 h4
  go_enter Try.func61, Try.ntmps61
  go_wp2_with (first
    | (go_at_call 50; refine (code_letter b w h).mono ?_; rintro e w1 ⟨rfl, rfl⟩)
    | (go_at_call 71; refine (code_digit b w h).mono ?_; rintro e w1 ⟨rfl, rfl⟩))
  go_ret
  exact ⟨rfl, rfl⟩

set_option maxHeartbeats 1000000 in
theorem ref_fits (f b : Nat) (w : World) (h : b ≤ 255) : Calls Try.prog 49 #[.int .u8 f, .int .u8 b] w fun e w' => e = .returned (.bool (Vat.stands f b)) ∧ w = w' := by
  by_cases h1 : f = 57
  · subst h1
    rw [stands_9]
    go_enter Try.func49, Try.ntmps49
    go_wp2_with (first
      | (go_at_call 45; refine (ref_letter b w h).mono ?_; rintro e w1 ⟨rfl, rfl⟩)
      | (go_at_call 47; refine (ref_digit b w h).mono ?_; rintro e w1 ⟨rfl, rfl⟩))
    go_ret
    exact ⟨rfl, rfl⟩
  by_cases h2 : f = 65
  · subst h2
    rw [stands_A]
    clear h1
    go_enter Try.func49, Try.ntmps49
    go_wp2_with (first
      | (go_at_call 45; refine (ref_letter b w h).mono ?_; rintro e w1 ⟨rfl, rfl⟩)
      | (go_at_call 47; refine (ref_digit b w h).mono ?_; rintro e w1 ⟨rfl, rfl⟩))
    go_ret
    exact ⟨rfl, rfl⟩
  by_cases h3 : f = 88
  · subst h3
    rw [stands_X]
    clear h1 h2
    unfold wayA
    cases hl : Vat.letter b
    · go_enter Try.func49, Try.ntmps49
      go_wp2_with (first
        | (go_at_call 45; refine (ref_letter b w h).mono ?_; rintro e w1 ⟨rfl, rfl⟩)
        | (go_at_call 47; refine (ref_digit b w h).mono ?_; rintro e w1 ⟨rfl, rfl⟩))
      go_ret
      exact ⟨rfl, rfl⟩
    · go_enter Try.func49, Try.ntmps49
      go_wp2_with (first
        | (go_at_call 45; refine (ref_letter b w h).mono ?_; rintro e w1 ⟨rfl, rfl⟩)
        | (go_at_call 47; refine (ref_digit b w h).mono ?_; rintro e w1 ⟨rfl, rfl⟩))
      go_ret
      exact ⟨rfl, rfl⟩
  by_cases h4 : f = 43
  · subst h4
    rw [stands_P]
    clear h1 h2 h3
    unfold wayP
    cases hl : Vat.letter b
    · cases hd : Vat.digit b
      · by_cases h5 : b = 43
        · have e5 : ((b : Int) == 43) = true := beq_iff_eq.2 (by omega)
          have hT : (false || false || decide (b = 43) || decide (b = 42)) = true := by simp [h5]
          rw [hT]
          clear h5 hT
          go_enter Try.func49, Try.ntmps49
          go_wp2_with (first
            | (go_at_call 45; refine (ref_letter b w h).mono ?_; rintro e w1 ⟨rfl, rfl⟩)
            | (go_at_call 47; refine (ref_digit b w h).mono ?_; rintro e w1 ⟨rfl, rfl⟩))
          go_ret
          exact ⟨rfl, rfl⟩
        · have e5 : ((b : Int) == 43) = false := beq_false_of_ne (by omega)
          have e6 : ((b : Int) == 42) = decide (b = 42) := by rw [Bool.eq_iff_iff, beq_iff_eq, decide_eq_true_iff]; omega
          rw [decide_eq_false h5]
          simp only [Bool.false_or, Bool.or_false]
          clear h5
          go_enter Try.func49, Try.ntmps49
          go_wp2_with (first
            | (go_at_call 45; refine (ref_letter b w h).mono ?_; rintro e w1 ⟨rfl, rfl⟩)
            | (go_at_call 47; refine (ref_digit b w h).mono ?_; rintro e w1 ⟨rfl, rfl⟩))
          go_ret
          exact ⟨rfl, rfl⟩
      · simp only [Bool.false_or, Bool.true_or]
        go_enter Try.func49, Try.ntmps49
        go_wp2_with (first
          | (go_at_call 45; refine (ref_letter b w h).mono ?_; rintro e w1 ⟨rfl, rfl⟩)
          | (go_at_call 47; refine (ref_digit b w h).mono ?_; rintro e w1 ⟨rfl, rfl⟩))
        go_ret
        exact ⟨rfl, rfl⟩
    · simp only [Bool.true_or]
      go_enter Try.func49, Try.ntmps49
      go_wp2_with (first
        | (go_at_call 45; refine (ref_letter b w h).mono ?_; rintro e w1 ⟨rfl, rfl⟩)
        | (go_at_call 47; refine (ref_digit b w h).mono ?_; rintro e w1 ⟨rfl, rfl⟩))
      go_ret
      exact ⟨rfl, rfl⟩
  rw [stands_o h1 h2 h3 h4]
  have e1 : ((f : Int) == 57) = false := beq_false_of_ne (by omega)
  have e2 : ((f : Int) == 65) = false := beq_false_of_ne (by omega)
  have e3 : ((f : Int) == 88) = false := beq_false_of_ne (by omega)
  have e4 : ((f : Int) == 43) = false := beq_false_of_ne (by omega)
  have e5 : ((f : Int) == (b : Int)) = decide (b = f) := by rw [Bool.eq_iff_iff, beq_iff_eq, decide_eq_true_iff]; omega
  clear h1 h2 h3 h4
  go_enter Try.func49, Try.ntmps49
  go_wp2_with (first
    | (go_at_call 45; refine (ref_letter b w h).mono ?_; rintro e w1 ⟨rfl, rfl⟩)
    | (go_at_call 47; refine (ref_digit b w h).mono ?_; rintro e w1 ⟨rfl, rfl⟩))
  go_ret
  exact ⟨rfl, rfl⟩
end Go.Proofs.Ytjanhgekocpobaa
