/- What each function of the document's own answers for days gives, at any input. -/
import Derived.Test.YtdacpiegfobhbaaRows
import Derived.Test.YtdacpiegfobhbaaCivMath
import Derived.WalkKit
import Derived.WalkSpells
import Derived.Lib.Hide
import Derived.BigQuiet
import Derived.Deep.QuietTactic
namespace Go.Proofs.Ytdacpiegfobhbaa
open Go.RowKit
set_option maxRecDepth 100000

theorem ret_bool {a b : Bool} (h : a = b) : Ending.returned (.bool a) = .returned (.bool b) := by rw [h]
theorem ret_int {k : IntKind} {a b : Int} (h : a = b) : Ending.returned (.int k a) = .returned (.int k b) := by rw [h]

theorem ret_ii {k l : IntKind} {a b c d : Int} (h : a = b) (h' : c = d) : Ending.returned (.tuple #[.int k a, .int l c]) = .returned (.tuple #[.int k b, .int l d]) := by rw [h, h']

set_option maxHeartbeats 400000 in
theorem ref_leap (y : Int) (w : World) :
    Calls Try.prog 61 #[.int .i64 y] w fun e w' => e = .returned (.bool (Civ.leap y)) ∧ w = w' := by
  by_cases h1 : 1970 ≤ y
  · by_cases h2 : y ≤ 9999
    · go_enter Try.func61, Try.ntmps61
      go_wp2
      all_goals go_ret
      all_goals exact ⟨ret_bool (by rw [Bool.eq_iff_iff]; simp_all [Civ.leap]; try omega), rfl⟩
    · go_enter Try.func61, Try.ntmps61
      go_wp2
      all_goals go_ret
      all_goals exact ⟨ret_bool (by rw [Bool.eq_iff_iff]; simp_all [Civ.leap]; try omega), rfl⟩
  · go_enter Try.func61, Try.ntmps61
    go_wp2
    all_goals go_ret
    all_goals exact ⟨ret_bool (by rw [Bool.eq_iff_iff]; simp_all [Civ.leap]; try omega), rfl⟩

set_option maxHeartbeats 400000 in
theorem ref_days (y : Int) (w : World) :
    Calls Try.prog 56 #[.int .i64 y] w fun e w' => e = .returned (.int .i64 (Civ.days y)) ∧ w = w' := by
  by_cases h1 : Civ.leap y = true
  · go_enter Try.func56, Try.ntmps56
    go_wp2_with (go_at_call 61; refine (ref_leap _ _).mono ?_; rintro e w' ⟨rfl, rfl⟩)
    all_goals go_ret
    all_goals exact ⟨ret_int (by simp_all [Civ.days]), rfl⟩
  · go_enter Try.func56, Try.ntmps56
    go_wp2_with (go_at_call 61; refine (ref_leap _ _).mono ?_; rintro e w' ⟨rfl, rfl⟩)
    all_goals go_ret
    all_goals exact ⟨ret_int (by simp_all [Civ.days]), rfl⟩

set_option maxHeartbeats 400000 in
theorem ref_len (y m : Int) (w : World) :
    Calls Try.prog 51 #[.int .i64 y, .int .i64 m] w fun e w' => e = .returned (.int .i64 (Civ.len y m)) ∧ w = w' := by
  by_cases h0 : y < 1970 ∨ 9999 < y ∨ m < 1 ∨ 12 < m
  · have e0 : Civ.len y m = 0 := by unfold Civ.len; rw [if_pos h0]
    have H0 := Lib.hid e0
    clear e0
    rcases h0 with h | h | h | h
    all_goals
      go_enter Try.func51, Try.ntmps51
      go_wp2
      all_goals go_ret
      all_goals exact ⟨ret_int (by rw [H0.out]), rfl⟩
  · have h1 : 1970 ≤ y := by omega
    have h2 : y ≤ 9999 := by omega
    have h3 : 1 ≤ m := by omega
    have h4 : m ≤ 12 := by omega
    by_cases hl : Civ.leap y = true
    all_goals
      have H0 : Hid (Civ.len y m = if m = 2 then (if Civ.leap y then 29 else 28) else if m = 4 ∨ m = 6 ∨ m = 9 ∨ m = 11 then 30 else 31) := by unfold Civ.len; exact Lib.hid (if_neg h0)
      clear h0
      go_enter Try.func51, Try.ntmps51
      go_wp2_with (go_at_call 61; refine (ref_leap _ _).mono ?_; rintro e w' ⟨rfl, rfl⟩)
      all_goals go_ret
      all_goals exact ⟨ret_int (by rw [H0.out]; simp_all), rfl⟩

theorem beq_t {a b : Int} (h : a = b) : (a == b) = true := by simp [h]
theorem beq_f {a b : Int} (h : ¬ a = b) : (a == b) = false := by simp [h]

set_option maxHeartbeats 400000 in
theorem ref_day_no (y m d : Int) (w : World) (h : Civ.len y m = 0 ∨ d < 1 ∨ Civ.len y m < d) :
    Calls Try.prog 50 #[.int .i64 y, .int .i64 m, .int .i64 d] w fun e w' => e = .returned (.tuple #[.int .i64 0, .int .i64 30]) ∧ w = w' := by
  by_cases h0 : Civ.len y m = 0
  · have hb := beq_t h0
    clear h0 h
    go_enter Try.func50, Try.ntmps50
    go_wp2_with (go_at_call 51; refine (ref_len _ _ _).mono ?_; rintro e w' ⟨rfl, rfl⟩)
    go_ret2
    exact ⟨rfl, rfl⟩
  · have hb := beq_f h0
    have h' : d < 1 ∨ Civ.len y m < d := by omega
    clear h0 h
    by_cases h1 : d < 1
    · clear h'
      go_enter Try.func50, Try.ntmps50
      go_wp2_with (go_at_call 51; refine (ref_len _ _ _).mono ?_; rintro e w' ⟨rfl, rfl⟩)
      go_ret2
      exact ⟨rfl, rfl⟩
    · have h2 : Civ.len y m < d := by omega
      clear h'
      go_enter Try.func50, Try.ntmps50
      go_wp2_with (go_at_call 51; refine (ref_len _ _ _).mono ?_; rintro e w' ⟨rfl, rfl⟩)
      go_ret2
      exact ⟨rfl, rfl⟩

theorem len_pos {y m : Int} (h : ¬ Civ.len y m = 0) : 1970 ≤ y ∧ y ≤ 9999 ∧ 1 ≤ m ∧ m ≤ 12 := by
  unfold Civ.len at h
  by_cases h0 : y < 1970 ∨ 9999 < y ∨ m < 1 ∨ 12 < m
  · rw [if_pos h0] at h; exact absurd rfl h
  · omega

set_option maxHeartbeats 1000000 in
theorem ref_day_ok (y m d : Int) (w : World) (h0 : 1 ≤ Civ.len y m) (h1 : 1 ≤ d) (h2 : d ≤ Civ.len y m) :
    Calls Try.prog 50 #[.int .i64 y, .int .i64 m, .int .i64 d] w fun e w' => e = .returned (.tuple #[.int .i64 (Civ.number y m d), .int .i64 0]) ∧ w = w' := by
  obtain ⟨hy1, hy2, hm1, hm2⟩ := len_pos (by omega : ¬ Civ.len y m = 0)
  have hb := beq_f (by omega : ¬ Civ.len y m = 0)
  go_enter Try.func50, Try.ntmps50
  go_wp2_with (go_at_call 51; refine (ref_len _ _ _).mono ?_; rintro e w' ⟨rfl, rfl⟩)
  go_loop [8, 9] (fun n i => ∃ k : Nat, (k : Int) + 1970 ≤ y ∧ i = .int .i64 (1970 + k) ∧ n = .int .i64 (Civ.years k)) (fun _ i => (y - intOf i).toNat)
  case atStart => exact ⟨0, by omega, rfl, rfl⟩
  case round =>
    obtain ⟨k, hk, rfl, rfl⟩ := hrel
    have hyb := Civ.years_bd k (by omega)
    have hdb := Civ.days_bd (1970 + k)
    by_cases hlt : 1970 + (k : Int) < y
    · go_wp2_with (go_at_call 56; refine (ref_days _ _).mono ?_; rintro e w' ⟨rfl, rfl⟩)
      go_round
      case rel => exact ⟨k + 1, by omega, by go_num, rfl⟩
      case measure => simp [intOf]; omega
    · have hk' : k = (y - 1970).toNat := by omega
      have HN : Hid (Civ.number y m d = Civ.years k + Civ.months y (m - 1).toNat + d - 1) := Lib.hid (by rw [hk']; rfl)
      clear hk'
      go_wp2
      go_loop [8, 10] (fun n i => ∃ j : Nat, (j : Int) + 1 ≤ m ∧ i = .int .i64 (1 + j) ∧ n = .int .i64 (Civ.years k + Civ.months y j)) (fun _ i => (m - intOf i).toNat)
      case atStart => exact ⟨0, by omega, rfl, by simp [Civ.months]⟩
      case round =>
        obtain ⟨j, hj, rfl, rfl⟩ := hrel
        have hmb := Civ.months_bd y j
        have hlb := Civ.len_bd y (1 + j)
        have hlm := Civ.len_bd y m
        have hms : Hid (Civ.months y (j + 1) = Civ.months y j + Civ.len y (1 + j)) := by
          have : Civ.months y (j + 1) = Civ.months y j + Civ.len y (j + 1) := rfl
          exact Lib.hid (by rw [this, Int.add_comm (j : Int) 1])
        by_cases hlt : 1 + (j : Int) < m
        · go_wp2_with (go_at_call 51; refine (ref_len _ _ _).mono ?_; rintro e w' ⟨rfl, rfl⟩)
          go_round
          case rel => exact ⟨j + 1, by omega, by go_num, by rw [hms.out]; go_num⟩
          case measure => simp [intOf]; omega
        · have hj' : j = (m - 1).toNat := by omega
          have HN2 : Hid (Civ.number y m d = Civ.years k + Civ.months y j + d - 1) := Lib.hid (by rw [HN.out, hj'])
          clear hj' HN
          go_wp2
          go_ret2
          exact ⟨ret_ii HN2.out.symm rfl, rfl⟩

set_option maxHeartbeats 400000 in
theorem ref_date_no (n : Int) (w : World) (h : n < 0 ∨ 2932896 < n) :
    Calls Try.prog 45 #[.int .i64 n] w fun e w' => e = .returned (.tuple #[.int .i64 0, .int .i64 0, .int .i64 0, .int .i64 30]) ∧ w = w' := by
  rcases h with h | h
  all_goals
    go_enter Try.func45, Try.ntmps45
    go_wp2
    exact bodyPost_ret (v := .tuple #[.int .i64 0, .int .i64 0, .int .i64 0, .int .i64 30]) (by simp [results, Try.results45, go_sem]) rfl ⟨rfl, rfl⟩

theorem ret4 {P : Int → Int → Int → Prop} {y m d : Int} (h : P y m d) :
    ∃ y' m' d' : Int, P y' m' d' ∧ Ending.returned (.tuple #[.int .i64 y, .int .i64 m, .int .i64 d, .int .i64 0]) = .returned (.tuple #[.int .i64 y', .int .i64 m', .int .i64 d', .int .i64 0]) := ⟨y, m, d, h, rfl⟩

/-- what a date's call gives: the day that has that number -/
def DateIs (n : Int) (e : Ending) : Prop := ∃ y m d : Int, (Civ.valid y m d ∧ Civ.number y m d = n) ∧ e = .returned (.tuple #[.int .i64 y, .int .i64 m, .int .i64 d, .int .i64 0])

set_option maxRecDepth 100000 in
set_option maxHeartbeats 1000000 in
theorem ref_date_ok (n : Int) (w : World) (h1 : 0 ≤ n) (h2 : n ≤ 2932896) :
    Calls Try.prog 45 #[.int .i64 n] w fun e w' => DateIs n e ∧ w = w' := by
  go_enter Try.func45, Try.ntmps45
  go_wp2
  go_loop [0, 6] (fun t i => ∃ k : Nat, (k : Int) ≤ 8029 ∧ Civ.years k ≤ n ∧ i = .int .i64 (1970 + k) ∧ t = .int .i64 (n - Civ.years k)) (fun _ i => (9999 - intOf i).toNat)
  case atStart => exact ⟨0, by omega, by simpa [Civ.years] using h1, rfl, by simp [Civ.years]⟩
  case round =>
    obtain ⟨k, hk, hkn, rfl, rfl⟩ := hrel
    have hyb := Civ.years_bd k (by omega)
    have hdb := Civ.days_bd (1970 + k)
    have hs : Hid (Civ.years (k + 1) = Civ.years k + Civ.days (1970 + k)) := Lib.hid rfl
    by_cases hlt : Civ.days (1970 + k) ≤ n - Civ.years k
    · have hk2 : (k : Int) + 1 ≤ 8029 := by
        by_cases c : (k : Int) + 1 ≤ 8029
        · exact c
        · have h8 : k + 1 = 8030 := by omega
          have := hs.out
          rw [h8, Civ.years_end] at this
          omega
      go_wp2_with (go_at_call 56; refine (ref_days _ _).mono ?_; rintro e w' ⟨rfl, rfl⟩)
      go_round
      case rel => exact ⟨k + 1, by omega, by rw [hs.out]; omega, by go_num, by rw [hs.out]; go_num⟩
      case measure => simp [intOf]; omega
    · have hlt' : n - Civ.years k < Civ.days (1970 + k) := by omega
      clear hlt hs
      go_wp2_with (go_at_call 56; refine (ref_days _ _).mono ?_; rintro e w' ⟨rfl, rfl⟩)
      go_loop [0, 7] (fun t i => ∃ j : Nat, (j : Int) ≤ 11 ∧ Civ.months (1970 + k) j ≤ n - Civ.years k ∧ i = .int .i64 (1 + j) ∧ t = .int .i64 (n - Civ.years k - Civ.months (1970 + k) j)) (fun _ i => (12 - intOf i).toNat)
      case atStart => exact ⟨0, by omega, by simp [Civ.months]; omega, rfl, by simp [Civ.months]⟩
      case round =>
        obtain ⟨j, hj, hjn, rfl, rfl⟩ := hrel
        have hmb := Civ.months_bd (1970 + k) j
        have hlb := Civ.len_bd (1970 + k) (1 + j)
        have hll := Civ.len_lo (y := 1970 + k) (m := 1 + j) (by omega) (by omega) (by omega) (by omega)
        have hms : Hid (Civ.months (1970 + k) (j + 1) = Civ.months (1970 + k) j + Civ.len (1970 + k) (1 + j)) := Lib.hid (Civ.months_succ _ _)
        by_cases hm : Civ.len (1970 + k) (1 + j) ≤ n - Civ.years k - Civ.months (1970 + k) j
        · have hj2 : (j : Int) + 1 ≤ 11 := by
            by_cases c : (j : Int) + 1 ≤ 11
            · exact c
            · have h12 : j + 1 = 12 := by omega
              have := hms.out
              rw [h12, Civ.months_12 (by omega) (by omega)] at this
              omega
          go_wp2_with (go_at_call 51; refine (ref_len _ _ _).mono ?_; rintro e w' ⟨rfl, rfl⟩)
          go_round
          case rel => exact ⟨j + 1, by omega, by rw [hms.out]; omega, by go_num, by rw [hms.out]; go_num⟩
          case measure => simp [intOf]; omega
        · have hm' : n - Civ.years k - Civ.months (1970 + k) j < Civ.len (1970 + k) (1 + j) := by omega
          clear hm hms
          go_wp2_with (go_at_call 51; refine (ref_len _ _ _).mono ?_; rintro e w' ⟨rfl, rfl⟩)
          have hv : Civ.valid (1970 + k) (1 + j) (n - Civ.years k - Civ.months (1970 + k) j + 1) := ⟨by omega, by omega, by omega⟩
          have hn : Civ.number (1970 + k) (1 + j) (n - Civ.years k - Civ.months (1970 + k) j + 1) = n := by
            unfold Civ.number
            rw [show (1970 + (k : Int) - 1970).toNat = k by omega, show (1 + (j : Int) - 1).toNat = j by omega]
            omega
          exact bodyPost_ret (v := .tuple #[.int .i64 (1970 + k), .int .i64 (1 + j), .int .i64 (n - Civ.years k - Civ.months (1970 + k) j + 1), .int .i64 0]) (by simp [results, Try.results45, go_sem]) rfl ⟨⟨_, _, _, ⟨hv, hn⟩, rfl⟩, rfl⟩
end Go.Proofs.Ytdacpiegfobhbaa
