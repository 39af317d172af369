/- What the program's own functions for years, months and the day behind so many months give, at any input. -/
import Derived.Test.YtlnefkimokcbbaaRRRRCivOf
namespace Go.Proofs.YtlnefkimokcbbaaRRRR
open Go.RowKit

set_option maxHeartbeats 400000 in
theorem code_isYear (y : Int) (w : World) :
    Calls Try.prog 33 #[.int .i64 y] w fun e w' => e = .returned (.bool (decide (1970 ≤ y) && decide (y ≤ 9999))) ∧ w = w' := by
  by_cases h1 : 1970 ≤ y
  · by_cases h2 : y ≤ 9999
    · go_enter Try.func33, Try.ntmps33
      go_wp2
      all_goals go_ret
      all_goals exact ⟨ret_bool (by rw [Bool.eq_iff_iff]; simp_all; try omega), rfl⟩
    · go_enter Try.func33, Try.ntmps33
      go_wp2
      all_goals go_ret
      all_goals exact ⟨ret_bool (by rw [Bool.eq_iff_iff]; simp_all; try omega), rfl⟩
  · go_enter Try.func33, Try.ntmps33
    go_wp2
    all_goals go_ret
    all_goals exact ⟨ret_bool (by rw [Bool.eq_iff_iff]; simp_all; try omega), rfl⟩
theorem code_isYear_at {y : Int} {b : Bool} (h : (decide (1970 ≤ y) && decide (y ≤ 9999)) = b) (w : World) :
    Calls Try.prog 33 #[.int .i64 y] w fun e w' => e = .returned (.bool b) ∧ w = w' := by
  have := code_isYear y w
  rw [h] at this
  exact this
theorem isYear_t {y : Int} (h1 : 1970 ≤ y) (h2 : y ≤ 9999) : (decide (1970 ≤ y) && decide (y ≤ 9999)) = true := by simp [h1, h2]
theorem isYear_f {y : Int} (h : y < 1970 ∨ 9999 < y) : (decide (1970 ≤ y) && decide (y ≤ 9999)) = false := by
  rw [Bool.and_eq_false_iff]
  rcases h with h | h
  · exact .inl (decide_eq_false (by omega))
  · exact .inr (decide_eq_false (by omega))

set_option maxHeartbeats 400000 in
theorem own_leap (y : Int) (w : World) :
    Calls Try.prog 10 #[.int .i64 y] w fun e w' => e = .returned (.bool (Civ.leap y)) ∧ w = w' := by
  by_cases h1 : 1970 ≤ y ∧ y ≤ 9999
  · obtain ⟨h1, h2⟩ := h1
    have H := Lib.hid (isYear_t h1 h2)
    go_enter Try.func10, Try.ntmps10
    go_wp2_with (go_at_call 33; refine (code_isYear_at H.out _).mono ?_; rintro e w' ⟨rfl, rfl⟩)
    all_goals go_ret
    all_goals exact ⟨ret_bool (by rw [Bool.eq_iff_iff]; simp_all [Civ.leap]; try omega), rfl⟩
  · have hno : y < 1970 ∨ 9999 < y := by omega
    have H := Lib.hid (isYear_f hno)
    have E : Hid (Civ.leap y = false) := Lib.hid (by unfold Civ.leap; rw [isYear_f hno]; simp)
    clear h1 hno
    go_enter Try.func10, Try.ntmps10
    go_wp2_with (go_at_call 33; refine (code_isYear_at H.out _).mono ?_; rintro e w' ⟨rfl, rfl⟩)
    all_goals go_ret
    all_goals exact ⟨ret_bool (by rw [E.out]), rfl⟩
theorem own_leap_at {y : Int} {b : Bool} (h : Civ.leap y = b) (w : World) :
    Calls Try.prog 10 #[.int .i64 y] w fun e w' => e = .returned (.bool b) ∧ w = w' := by
  have := own_leap y w
  rw [h] at this
  exact this

/-- leap years ahead of a year, from year 1 on -/
def leapsN (y : Int) : Int := (y - 1) / 4 - (y - 1) / 100 + (y - 1) / 400
set_option maxHeartbeats 400000 in
theorem code_leaps (y : Int) (w : World) (h1 : 1970 ≤ y) (h2 : y ≤ 10000) :
    Calls Try.prog 44 #[.int .i64 y] w fun e w' => e = .returned (.int .i64 (leapsN y)) ∧ w = w' := by
  go_enter Try.func44, Try.ntmps44
  go_wp2
  all_goals go_ret
  all_goals exact ⟨ret_int (by unfold leapsN; omega), rfl⟩

/-- the year's months -/
def monthsV (f : Int) : Value := .agg #[.int .i64 31, .int .i64 f, .int .i64 31, .int .i64 30, .int .i64 31, .int .i64 30, .int .i64 31, .int .i64 31, .int .i64 30, .int .i64 31, .int .i64 30, .int .i64 31]
set_option maxHeartbeats 800000 in
theorem code_months (y : Int) (w : World) :
    Calls Try.prog 34 #[.int .i64 y] w fun e w' => e = .returned (monthsV (if Civ.leap y then 29 else 28)) ∧ Below w.heap.size w w' := by
  by_cases hl : Civ.leap y = true
  · rw [if_pos hl]
    have H := Lib.hid hl
    clear hl
    go_enter Try.func34, Try.ntmps34
    go_wp2_with (go_at_call 10; refine (own_leap_at H.out _).mono ?_; rintro e w' ⟨rfl, rfl⟩)
    exact bodyPost_ret (v := monthsV 29) (by simp [results, Try.results34, go_sem, monthsV]) rfl ⟨rfl, (Below.refl _ _).alloc (Nat.le_refl _) _⟩
  · rw [if_neg hl]
    have hl : Civ.leap y = false := by simpa using hl
    have H := Lib.hid hl
    clear hl
    go_enter Try.func34, Try.ntmps34
    go_wp2_with (go_at_call 10; refine (own_leap_at H.out _).mono ?_; rintro e w' ⟨rfl, rfl⟩)
    exact bodyPost_ret (v := monthsV 28) (by simp [results, Try.results34, go_sem, monthsV]) rfl ⟨rfl, (Below.refl _ _).alloc (Nat.le_refl _) _⟩

theorem code_months_at {y f : Int} (h : (if Civ.leap y then 29 else 28) = f) (w : World) :
    Calls Try.prog 34 #[.int .i64 y] w fun e w' => e = .returned (monthsV f) ∧ Below w.heap.size w w' := by
  have := code_months y w
  rw [h] at this
  exact this

theorem len_no {y m : Int} (h : y < 1970 ∨ 9999 < y ∨ m < 1 ∨ 12 < m) : Civ.len y m = 0 := by unfold Civ.len; rw [if_pos h]
/-- a month's days, by the year's second month -/
def lenF (f m : Int) : Int := if m = 2 then f else if m = 4 ∨ m = 6 ∨ m = 9 ∨ m = 11 then 30 else 31
theorem len_lenF {y m : Int} (h1 : 1970 ≤ y) (h2 : y ≤ 9999) (h3 : 1 ≤ m) (h4 : m ≤ 12) : Civ.len y m = lenF (if Civ.leap y then 29 else 28) m := by
  unfold Civ.len lenF; rw [if_neg (by omega)]

theorem idx0 (f : Int) : ∀ w, (Instr.index 51 (monthsV f) (.int .i64 0)).run Try.prog w = .ok (.int .i64 31) w := fun _ => by kernel_rfl
theorem idx1 (f : Int) : ∀ w, (Instr.index 51 (monthsV f) (.int .i64 1)).run Try.prog w = .ok (.int .i64 f) w := fun _ => by kernel_rfl
theorem idx2 (f : Int) : ∀ w, (Instr.index 51 (monthsV f) (.int .i64 2)).run Try.prog w = .ok (.int .i64 31) w := fun _ => by kernel_rfl
theorem idx3 (f : Int) : ∀ w, (Instr.index 51 (monthsV f) (.int .i64 3)).run Try.prog w = .ok (.int .i64 30) w := fun _ => by kernel_rfl
theorem idx4 (f : Int) : ∀ w, (Instr.index 51 (monthsV f) (.int .i64 4)).run Try.prog w = .ok (.int .i64 31) w := fun _ => by kernel_rfl
theorem idx5 (f : Int) : ∀ w, (Instr.index 51 (monthsV f) (.int .i64 5)).run Try.prog w = .ok (.int .i64 30) w := fun _ => by kernel_rfl
theorem idx6 (f : Int) : ∀ w, (Instr.index 51 (monthsV f) (.int .i64 6)).run Try.prog w = .ok (.int .i64 31) w := fun _ => by kernel_rfl
theorem idx7 (f : Int) : ∀ w, (Instr.index 51 (monthsV f) (.int .i64 7)).run Try.prog w = .ok (.int .i64 31) w := fun _ => by kernel_rfl
theorem idx8 (f : Int) : ∀ w, (Instr.index 51 (monthsV f) (.int .i64 8)).run Try.prog w = .ok (.int .i64 30) w := fun _ => by kernel_rfl
theorem idx9 (f : Int) : ∀ w, (Instr.index 51 (monthsV f) (.int .i64 9)).run Try.prog w = .ok (.int .i64 31) w := fun _ => by kernel_rfl
theorem idx10 (f : Int) : ∀ w, (Instr.index 51 (monthsV f) (.int .i64 10)).run Try.prog w = .ok (.int .i64 30) w := fun _ => by kernel_rfl
theorem idx11 (f : Int) : ∀ w, (Instr.index 51 (monthsV f) (.int .i64 11)).run Try.prog w = .ok (.int .i64 31) w := fun _ => by kernel_rfl

set_option maxHeartbeats 1000000 in
theorem code_len (y m : Int) (w : World) :
    Calls Try.prog 12 #[.int .i64 y, .int .i64 m] w fun e w' => e = .returned (.int .i64 (Civ.len y m)) ∧ Below w.heap.size w w' := by
  by_cases hy : y < 1970 ∨ 9999 < y
  · have H := Lib.hid (isYear_f hy)
    have E := Lib.hid (len_no (m := m) (by omega : y < 1970 ∨ 9999 < y ∨ m < 1 ∨ 12 < m))
    clear hy
    go_enter Try.func12, Try.ntmps12
    go_wp2_with (go_at_call 33; refine (code_isYear_at H.out _).mono ?_; rintro e w' ⟨rfl, rfl⟩)
    go_ret
    exact ⟨ret_int (by rw [E.out]), Below.refl _ _⟩
  · have h1 : 1970 ≤ y := by omega
    have h2 : y ≤ 9999 := by omega
    clear hy
    have H := Lib.hid (isYear_t h1 h2)
    by_cases h3 : m < 1
    · have E := Lib.hid (len_no (y := y) (by omega : y < 1970 ∨ 9999 < y ∨ m < 1 ∨ 12 < m))
      go_enter Try.func12, Try.ntmps12
      go_wp2_with (go_at_call 33; refine (code_isYear_at H.out _).mono ?_; rintro e w' ⟨rfl, rfl⟩)
      go_ret
      exact ⟨ret_int (by rw [E.out]), Below.refl _ _⟩
    · by_cases h4 : 12 < m
      · have E := Lib.hid (len_no (y := y) (by omega : y < 1970 ∨ 9999 < y ∨ m < 1 ∨ 12 < m))
        go_enter Try.func12, Try.ntmps12
        go_wp2_with (go_at_call 33; refine (code_isYear_at H.out _).mono ?_; rintro e w' ⟨rfl, rfl⟩)
        go_ret
        exact ⟨ret_int (by rw [E.out]), Below.refl _ _⟩
      · have L := Lib.hid (len_lenF h1 h2 (by omega : 1 ≤ m) (by omega : m ≤ 12))
        obtain ⟨f, hf⟩ : ∃ f : Int, (if Civ.leap y then 29 else 28) = f := ⟨_, rfl⟩
        have F := Lib.hid hf
        clear hf
        have hm : m = 1 ∨ m = 2 ∨ m = 3 ∨ m = 4 ∨ m = 5 ∨ m = 6 ∨ m = 7 ∨ m = 8 ∨ m = 9 ∨ m = 10 ∨ m = 11 ∨ m = 12 := by omega
        clear h3 h4
        have i0 := idx0 f
        have i1 := idx1 f
        have i2 := idx2 f
        have i3 := idx3 f
        have i4 := idx4 f
        have i5 := idx5 f
        have i6 := idx6 f
        have i7 := idx7 f
        have i8 := idx8 f
        have i9 := idx9 f
        have i10 := idx10 f
        have i11 := idx11 f
        unfold monthsV at i0 i1 i2 i3 i4 i5 i6 i7 i8 i9 i10 i11
        rcases hm with rfl | rfl | rfl | rfl | rfl | rfl | rfl | rfl | rfl | rfl | rfl | rfl
        all_goals
          go_enter Try.func12, Try.ntmps12
          go_wp2_with (first
            | (go_at_call 33; refine (code_isYear_at H.out _).mono ?_; rintro e w' ⟨rfl, rfl⟩)
            | (go_at_call 34; refine (code_months_at F.out _).mono ?_; rintro e w1 ⟨rfl, hb⟩; unfold monthsV))
          go_ret
          exact ⟨ret_int (by rw [L.out, F.out]; simp [lenF]), hb⟩
end Go.Proofs.YtlnefkimokcbbaaRRRR
