/- Small words of the lexer: what runes and bytes are. -/
import Derived.Test.YtfjecohokmelfaaDoorLxA
namespace Go.Proofs.YtfjecohokmelfaaDoor
open Go.RowKit
set_option maxRecDepth 100000
set_option linter.unusedSimpArgs false
set_option linter.unusedVariables false

def isLr (r : Int) : Bool := decide (97 ≤ r) && decide (r ≤ 122)
def isDr (r : Int) : Bool := decide (48 ≤ r) && decide (r ≤ 57)
def isRr (r : Int) : Bool := decide (r ≠ 10)
def isBr (r : Int) : Bool := decide (r = 32 ∨ r = 9 ∨ r = 13 ∨ r = 10)
def isSr (r : Int) : Bool := decide (r = 43 ∨ r = 45 ∨ r = 40 ∨ r = 41 ∨ r = 44 ∨ r = 59 ∨ r = 61 ∨ r = 60 ∨ r = 62)
theorem code_isLetter (r : Int) (w : World) : Calls Tryd.prog 21 #[.int .i32 r] w fun e w' => e = .returned (.bool (isLr r)) ∧ w = w' := by
  go_enter Tryd.func21, Tryd.ntmps21
  go_wp2
  all_goals (
    go_ret
    exact ⟨ret_bool (by rw [Bool.eq_iff_iff]; simp [isLr]; try omega), rfl⟩)
theorem code_isDigit (r : Int) (w : World) : Calls Tryd.prog 22 #[.int .i32 r] w fun e w' => e = .returned (.bool (isDr r)) ∧ w = w' := by
  go_enter Tryd.func22, Tryd.ntmps22
  go_wp2
  all_goals (
    go_ret
    exact ⟨ret_bool (by rw [Bool.eq_iff_iff]; simp [isDr]; try omega), rfl⟩)
theorem code_isRemark (r : Int) (w : World) : Calls Tryd.prog 16 #[.int .i32 r] w fun e w' => e = .returned (.bool (isRr r)) ∧ w = w' := by
  go_enter Tryd.func16, Tryd.ntmps16
  go_wp2
  all_goals (
    go_ret
    exact ⟨ret_bool (by unfold isRr; by_cases h : r = 10 <;> simp [h]), rfl⟩)
theorem code_isBlank (r : Int) (w : World) : Calls Tryd.prog 14 #[.int .i32 r] w fun e w' => e = .returned (.bool (isBr r)) ∧ w = w' := by
  go_enter Tryd.func14, Tryd.ntmps14
  go_wp2
  all_goals (
    go_ret
    exact ⟨ret_bool (by simp_all [isBr]), rfl⟩)
theorem code_isSign (r : Int) (w : World) : Calls Tryd.prog 24 #[.int .i32 r] w fun e w' => e = .returned (.bool (isSr r)) ∧ w = w' := by
  go_enter Tryd.func24, Tryd.ntmps24
  go_wp2
  all_goals (
    go_ret
    exact ⟨ret_bool (by simp_all [isSr]), rfl⟩)
theorem ref_letter (b : UInt8) (w : World) : Calls Tryd.prog 26 #[.int .u8 b.toNat] w fun e w' => e = .returned (.bool (isLb b)) ∧ w = w' := by
  unfold isLb
  generalize b.toNat = n
  go_enter Tryd.func26, Tryd.ntmps26
  go_wp2
  all_goals (
    go_ret
    exact ⟨ret_bool (by rw [Bool.eq_iff_iff]; simp; try omega), rfl⟩)
theorem ref_digit (b : UInt8) (w : World) : Calls Tryd.prog 27 #[.int .u8 b.toNat] w fun e w' => e = .returned (.bool (isDb b)) ∧ w = w' := by
  unfold isDb
  generalize b.toNat = n
  go_enter Tryd.func27, Tryd.ntmps27
  go_wp2
  all_goals (
    go_ret
    exact ⟨ret_bool (by rw [Bool.eq_iff_iff]; simp; try omega), rfl⟩)
theorem ref_blank (b : UInt8) (w : World) : Calls Tryd.prog 25 #[.int .u8 b.toNat] w fun e w' => e = .returned (.bool (isBb b)) ∧ w = w' := by
  unfold isBb
  generalize b.toNat = n
  go_enter Tryd.func25, Tryd.ntmps25
  go_wp2
  all_goals (
    go_ret
    exact ⟨ret_bool (by rw [Bool.eq_iff_iff]; simp; try omega), rfl⟩)
theorem ref_sign (b : UInt8) (w : World) : Calls Tryd.prog 28 #[.int .u8 b.toNat] w fun e w' => e = .returned (.bool (isSb b)) ∧ w = w' := by
  unfold isSb
  generalize b.toNat = n
  go_enter Tryd.func28, Tryd.ntmps28
  go_wp2
  all_goals (
    go_ret
    exact ⟨ret_bool (by rw [Bool.eq_iff_iff]; simp; try omega), rfl⟩)
/-- a word, whatever it is -/
def kwB (w : ByteArray) : Bool := decide (w.toList = [98, 111, 120] ∨ w.toList = [115, 117, 109] ∨ w.toList = [109, 105, 110] ∨ w.toList = [109, 97, 120] ∨ w.toList = [99, 108, 97, 109, 112])
theorem str_is (w : ByteArray) (l : List UInt8) : (w.toList == l) = decide (w.toList = l) := by
  rw [Bool.eq_iff_iff]
  simp
set_option maxHeartbeats 1000000 in
theorem code_Keyword (s : ByteArray) (w : World) : Calls Tryd.prog 12 #[.string s] w fun e w' => e = .returned (.bool (kwB s)) ∧ w = w' := by
  unfold kwB
  go_enter Tryd.func12, Tryd.ntmps12
  go_wp2
  all_goals (
    go_ret
    exact ⟨ret_bool (by simp_all), rfl⟩)
set_option maxHeartbeats 1000000 in
theorem ref_Keyword (s : ByteArray) (w : World) : Calls Tryd.prog 13 #[.string s] w fun e w' => e = .returned (.bool (kwB s)) ∧ w = w' := by
  unfold kwB
  go_enter Tryd.func13, Tryd.ntmps13
  go_wp2
  all_goals (
    go_ret
    exact ⟨ret_bool (by rw [Bool.eq_iff_iff]; simp_all), rfl⟩)
end Go.Proofs.YtfjecohokmelfaaDoor
