/- What the program's own functions for years, months and the day behind so many months give, at any input. -/
import Derived.Test.YtdacpiegfobhbaaCivOf
namespace Go.Proofs.Ytdacpiegfobhbaa
open Go.RowKit
set_option maxRecDepth 100000

set_option maxHeartbeats 400000 in
theorem code_isYear (y : Int) (w : World) :
    Calls Try.prog 57 #[.int .i64 y] w fun e w' => e = .returned (.bool (decide (1970 ≤ y) && decide (y ≤ 9999))) ∧ w = w' := by
  by_cases h1 : 1970 ≤ y
  · by_cases h2 : y ≤ 9999
    · go_enter Try.func57, Try.ntmps57
      go_wp2
      all_goals go_ret
      all_goals exact ⟨ret_bool (by rw [Bool.eq_iff_iff]; simp_all; try omega), rfl⟩
    · go_enter Try.func57, Try.ntmps57
      go_wp2
      all_goals go_ret
      all_goals exact ⟨ret_bool (by rw [Bool.eq_iff_iff]; simp_all; try omega), rfl⟩
  · go_enter Try.func57, Try.ntmps57
    go_wp2
    all_goals go_ret
    all_goals exact ⟨ret_bool (by rw [Bool.eq_iff_iff]; simp_all; try omega), rfl⟩
theorem code_isYear_at {y : Int} {b : Bool} (h : (decide (1970 ≤ y) && decide (y ≤ 9999)) = b) (w : World) :
    Calls Try.prog 57 #[.int .i64 y] w fun e w' => e = .returned (.bool b) ∧ w = w' := by
  have := code_isYear y w
  rw [h] at this
  exact this
theorem isYear_t {y : Int} (h1 : 1970 ≤ y) (h2 : y ≤ 9999) : (decide (1970 ≤ y) && decide (y ≤ 9999)) = true := by simp [h1, h2]
theorem isYear_f {y : Int} (h : y < 1970 ∨ 9999 < y) : (decide (1970 ≤ y) && decide (y ≤ 9999)) = false := by
  rw [Bool.and_eq_false_iff]
  rcases h with h | h
  · exact .inl (decide_eq_false (by omega))
  · exact .inr (decide_eq_false (by omega))

set_option maxHeartbeats 400000 in
theorem own_leap (y : Int) (w : World) :
    Calls Try.prog 66 #[.int .i64 y] w fun e w' => e = .returned (.bool (Civ.leap y)) ∧ w = w' := by
  by_cases h1 : 1970 ≤ y ∧ y ≤ 9999
  · obtain ⟨h1, h2⟩ := h1
    have H := Lib.hid (isYear_t h1 h2)
    go_enter Try.func66, Try.ntmps66
    go_wp2_with (go_at_call 57; refine (code_isYear_at H.out _).mono ?_; rintro e w' ⟨rfl, rfl⟩)
    all_goals go_ret
    all_goals exact ⟨ret_bool (by rw [Bool.eq_iff_iff]; simp_all [Civ.leap]; try omega), rfl⟩
  · have hno : y < 1970 ∨ 9999 < y := by omega
    have H := Lib.hid (isYear_f hno)
    have E : Hid (Civ.leap y = false) := Lib.hid (by unfold Civ.leap; rw [isYear_f hno]; simp)
    clear h1 hno
    go_enter Try.func66, Try.ntmps66
    go_wp2_with (go_at_call 57; refine (code_isYear_at H.out _).mono ?_; rintro e w' ⟨rfl, rfl⟩)
    all_goals go_ret
    all_goals exact ⟨ret_bool (by rw [E.out]), rfl⟩
theorem own_leap_at {y : Int} {b : Bool} (h : Civ.leap y = b) (w : World) :
    Calls Try.prog 66 #[.int .i64 y] w fun e w' => e = .returned (.bool b) ∧ w = w' := by
  have := own_leap y w
  rw [h] at this
  exact this

/-- leap years ahead of a year, from year 1 on -/
def leapsN (y : Int) : Int := (y - 1) / 4 - (y - 1) / 100 + (y - 1) / 400
set_option maxHeartbeats 400000 in
theorem code_leaps (y : Int) (w : World) (h1 : 1970 ≤ y) (h2 : y ≤ 10000) :
    Calls Try.prog 62 #[.int .i64 y] w fun e w' => e = .returned (.int .i64 (leapsN y)) ∧ w = w' := by
  go_enter Try.func62, Try.ntmps62
  go_wp2
  all_goals go_ret
  all_goals exact ⟨ret_int (by unfold leapsN; omega), rfl⟩

/-- the year's months -/
def monthsV (f : Int) : Value := .agg #[.int .i64 31, .int .i64 f, .int .i64 31, .int .i64 30, .int .i64 31, .int .i64 30, .int .i64 31, .int .i64 31, .int .i64 30, .int .i64 31, .int .i64 30, .int .i64 31]
set_option maxHeartbeats 800000 in
theorem code_months (y : Int) (w : World) :
    Calls Try.prog 63 #[.int .i64 y] w fun e w' => e = .returned (monthsV (if Civ.leap y then 29 else 28)) ∧ Below w.heap.size w w' := by
  by_cases hl : Civ.leap y = true
  · rw [if_pos hl]
    have H := Lib.hid hl
    clear hl
    go_enter Try.func63, Try.ntmps63
    go_wp2_with (go_at_call 66; refine (own_leap_at H.out _).mono ?_; rintro e w' ⟨rfl, rfl⟩)
    exact bodyPost_ret (v := monthsV 29) (by simp [results, Try.results63, go_sem, monthsV]) rfl ⟨rfl, (Below.refl _ _).alloc (Nat.le_refl _) _⟩
  · rw [if_neg hl]
    have hl : Civ.leap y = false := by simpa using hl
    have H := Lib.hid hl
    clear hl
    go_enter Try.func63, Try.ntmps63
    go_wp2_with (go_at_call 66; refine (own_leap_at H.out _).mono ?_; rintro e w' ⟨rfl, rfl⟩)
    exact bodyPost_ret (v := monthsV 28) (by simp [results, Try.results63, go_sem, monthsV]) rfl ⟨rfl, (Below.refl _ _).alloc (Nat.le_refl _) _⟩

theorem code_months_at {y f : Int} (h : (if Civ.leap y then 29 else 28) = f) (w : World) :
    Calls Try.prog 63 #[.int .i64 y] w fun e w' => e = .returned (monthsV f) ∧ Below w.heap.size w w' := by
  have := code_months y w
  rw [h] at this
  exact this

theorem len_no {y m : Int} (h : y < 1970 ∨ 9999 < y ∨ m < 1 ∨ 12 < m) : Civ.len y m = 0 := by unfold Civ.len; rw [if_pos h]
/-- a month's days, by the year's second month -/
def lenF (f m : Int) : Int := if m = 2 then f else if m = 4 ∨ m = 6 ∨ m = 9 ∨ m = 11 then 30 else 31
theorem len_lenF {y m : Int} (h1 : 1970 ≤ y) (h2 : y ≤ 9999) (h3 : 1 ≤ m) (h4 : m ≤ 12) : Civ.len y m = lenF (if Civ.leap y then 29 else 28) m := by
  unfold Civ.len lenF; rw [if_neg (by omega)]

theorem idx0 (f : Int) : ∀ w, (Instr.index 82 (monthsV f) (.int .i64 0)).run Try.prog w = .ok (.int .i64 31) w := fun _ => by kernel_rfl
theorem idx1 (f : Int) : ∀ w, (Instr.index 82 (monthsV f) (.int .i64 1)).run Try.prog w = .ok (.int .i64 f) w := fun _ => by kernel_rfl
theorem idx2 (f : Int) : ∀ w, (Instr.index 82 (monthsV f) (.int .i64 2)).run Try.prog w = .ok (.int .i64 31) w := fun _ => by kernel_rfl
theorem idx3 (f : Int) : ∀ w, (Instr.index 82 (monthsV f) (.int .i64 3)).run Try.prog w = .ok (.int .i64 30) w := fun _ => by kernel_rfl
theorem idx4 (f : Int) : ∀ w, (Instr.index 82 (monthsV f) (.int .i64 4)).run Try.prog w = .ok (.int .i64 31) w := fun _ => by kernel_rfl
theorem idx5 (f : Int) : ∀ w, (Instr.index 82 (monthsV f) (.int .i64 5)).run Try.prog w = .ok (.int .i64 30) w := fun _ => by kernel_rfl
theorem idx6 (f : Int) : ∀ w, (Instr.index 82 (monthsV f) (.int .i64 6)).run Try.prog w = .ok (.int .i64 31) w := fun _ => by kernel_rfl
theorem idx7 (f : Int) : ∀ w, (Instr.index 82 (monthsV f) (.int .i64 7)).run Try.prog w = .ok (.int .i64 31) w := fun _ => by kernel_rfl
theorem idx8 (f : Int) : ∀ w, (Instr.index 82 (monthsV f) (.int .i64 8)).run Try.prog w = .ok (.int .i64 30) w := fun _ => by kernel_rfl
theorem idx9 (f : Int) : ∀ w, (Instr.index 82 (monthsV f) (.int .i64 9)).run Try.prog w = .ok (.int .i64 31) w := fun _ => by kernel_rfl
theorem idx10 (f : Int) : ∀ w, (Instr.index 82 (monthsV f) (.int .i64 10)).run Try.prog w = .ok (.int .i64 30) w := fun _ => by kernel_rfl
theorem idx11 (f : Int) : ∀ w, (Instr.index 82 (monthsV f) (.int .i64 11)).run Try.prog w = .ok (.int .i64 31) w := fun _ => by kernel_rfl

end Go.Proofs.Ytdacpiegfobhbaa
