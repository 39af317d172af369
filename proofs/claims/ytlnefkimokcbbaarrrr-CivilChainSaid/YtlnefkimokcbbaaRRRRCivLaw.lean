/- What the statements' own functions for days do: the examples. -/
import Derived.Test.YtlnefkimokcbbaaRRRRCivCode
namespace Go.Proofs.YtlnefkimokcbbaaRRRR
open Go.RowKit

theorem n1 : Civ.number 2024 2 29 = 19782 := by decide +kernel
theorem v1 : Civ.valid 2024 2 29 := by unfold Civ.valid; decide +kernel
theorem k1 : nextK 2 2024 1 (-1) = 2 := by decide +kernel
theorem k2 : nextY 2 2024 1 (-1) = 2023 := by decide +kernel
theorem k3 : nextI 2 2024 1 (-1) = 4 := by decide +kernel
theorem k4 : nextE 2 2024 1 (-1) = 0 := by decide +kernel

theorem lives_day (w : World) : Calls Try.prog 8 #[.int .i64 2024, .int .i64 2, .int .i64 29] w fun e w' => e = .returned (.tuple #[.int .i64 19782, .int .i64 0]) ∧ Below w.heap.size w w' := by
  have := code_day_ok 2024 2 29 w v1
  rw [n1] at this
  exact this
theorem lives_of (w : World) : Calls Try.prog 27 #[.int .i64 19782, .int .i64 2] w fun e w' => e = .returned (.tuple #[.agg #[.int .i64 2, .int .i64 2024, .int .i64 1], .int .i64 0]) ∧ Below w.heap.size w w' := by
  have := code_of_ok 2024 2 29 2 w v1 (by decide)
  rw [n1] at this
  exact this
theorem lives_next (w : World) : Calls Try.prog 21 #[.agg #[.int .i64 2, .int .i64 2024, .int .i64 1], .int .i64 (-1)] w fun e w' => e = .returned (.tuple #[.agg #[.int .i64 2, .int .i64 2023, .int .i64 4], .int .i64 0]) ∧ Below w.heap.size w w' := by
  have := code_next 2 2024 1 (-1) w
  rw [k1, k2, k3, k4] at this
  exact this

set_option maxHeartbeats 400000 in
theorem lives_any (w : World) : Calls Try.prog 14 #[] w fun e w' => e = .returned (.bool true) ∧ Below w.heap.size w w' := by
  go_enter Try.func14, Try.ntmps14
  go_wp2_with (first | (go_at_call 8; refine (lives_day _).mono ?_; rintro e w1 ⟨rfl, hb1⟩; obtain ⟨hc1, hf1⟩ := bcell hb1) | (go_at_call 27; refine (lives_of _).mono ?_; rintro e w2 ⟨rfl, hb2⟩; obtain ⟨hc2, hf2⟩ := bcell hb2) | (go_at_call 21; refine (lives_next _).mono ?_; rintro e w3 ⟨rfl, hb3⟩; obtain ⟨hc3, hf3⟩ := bcell hb3; have hz3 : w2.heap.size < w3.heap.size := (by have := hb3.size; simp at this; omega)))
  go_ret
  have s1 := hb1.size
  have s2 := hb2.size
  exact ⟨rfl, (((hb1.trans (hb2.mono s1)).alloc (by omega) _).trans (hb3.mono (by simp; omega))).alloc (by omega) _⟩

theorem not_valid {y m d : Int} (h : ¬ Civ.valid y m d) : Civ.len y m = 0 ∨ d < 1 ∨ Civ.len y m < d := by
  unfold Civ.valid at h
  have := Civ.len_bd y m
  omega

/-- two calls, one behind the other -/
theorem below_tr {B : Nat} {a b c : World} (h : Below B a b) (k : Below b.heap.size b c) (hB : B ≤ a.heap.size) : Below B a c := h.trans (k.mono (Nat.le_trans hB h.size))

set_option maxHeartbeats 1000000 in
theorem civilDays_any (y m d : Int) (w : World) : Calls Try.prog 3 #[.int .i64 y, .int .i64 m, .int .i64 d] w fun e w' => e = .returned (.bool true) ∧ Below w.heap.size w w' := by
  by_cases hv : Civ.valid y m d
  · have HV := Lib.hid hv
    clear hv
    go_enter Try.func3, Try.ntmps3
    go_wp2_with (first | (go_at_call 8; refine (code_day_ok _ _ _ _ HV.out).mono ?_; rintro e w1 ⟨rfl, hb1⟩) | (go_at_call 9; refine (ref_day_ok _ _ _ _ HV.out.1 HV.out.2.1 HV.out.2.2).mono ?_; rintro e w' ⟨rfl, rfl⟩) | (go_at_call 10; refine (code_leap _ _).mono ?_; rintro e w2 ⟨rfl, hb2⟩) | (go_at_call 11; refine (ref_leap _ _).mono ?_; rintro e w' ⟨rfl, rfl⟩) | (go_at_call 12; refine (code_len _ _ _).mono ?_; rintro e w3 ⟨rfl, hb3⟩) | (go_at_call 13; refine (ref_len _ _ _).mono ?_; rintro e w' ⟨rfl, rfl⟩) | (go_at_call 14; refine (lives_any _).mono ?_; rintro e w4 ⟨rfl, hb4⟩))
    go_ret
    exact ⟨rfl, below_tr (below_tr (below_tr hb1 hb2 (Nat.le_refl _)) hb3 (Nat.le_refl _)) hb4 (Nat.le_refl _)⟩
  · have HV := Lib.hid (not_valid hv)
    clear hv
    go_enter Try.func3, Try.ntmps3
    go_wp2_with (first | (go_at_call 8; refine (code_day_no _ _ _ _ HV.out).mono ?_; rintro e w1 ⟨rfl, hb1⟩) | (go_at_call 9; refine (ref_day_no _ _ _ _ HV.out).mono ?_; rintro e w' ⟨rfl, rfl⟩) | (go_at_call 10; refine (code_leap _ _).mono ?_; rintro e w2 ⟨rfl, hb2⟩) | (go_at_call 11; refine (ref_leap _ _).mono ?_; rintro e w' ⟨rfl, rfl⟩) | (go_at_call 12; refine (code_len _ _ _).mono ?_; rintro e w3 ⟨rfl, hb3⟩) | (go_at_call 13; refine (ref_len _ _ _).mono ?_; rintro e w' ⟨rfl, rfl⟩) | (go_at_call 14; refine (lives_any _).mono ?_; rintro e w4 ⟨rfl, hb4⟩))
    go_ret
    exact ⟨rfl, below_tr (below_tr (below_tr hb1 hb2 (Nat.le_refl _)) hb3 (Nat.le_refl _)) hb4 (Nat.le_refl _)⟩

set_option maxHeartbeats 1000000 in
theorem civilDates_no (n : Int) (w : World) (h : n < 0 ∨ 2932896 < n) : Calls Try.prog 4 #[.int .i64 n] w fun e w' => e = .returned (.bool true) ∧ Below w.heap.size w w' := by
  have H := Lib.hid h
  clear h
  go_enter Try.func4, Try.ntmps4
  go_wp2_with (first | (go_at_call 15; refine (code_date_no _ _ H.out).mono ?_; rintro e w1 ⟨rfl, hb1⟩) | (go_at_call 16; refine (ref_date_no _ _ H.out).mono ?_; rintro e w' ⟨rfl, rfl⟩) | (go_at_call 8; refine (code_day_no _ _ _ _ (by simp)).mono ?_; rintro e w2 ⟨rfl, hb2⟩) | (go_at_call 14; refine (lives_any _).mono ?_; rintro e w4 ⟨rfl, hb4⟩))
  go_ret
  exact ⟨rfl, below_tr (below_tr hb1 hb2 (Nat.le_refl _)) hb4 (Nat.le_refl _)⟩

set_option maxHeartbeats 1000000 in
theorem civilDates_ok (y m d : Int) (w : World) (h : Civ.valid y m d) : Calls Try.prog 4 #[.int .i64 (Civ.number y m d)] w fun e w' => e = .returned (.bool true) ∧ Below w.heap.size w w' := by
  obtain ⟨h1, h2⟩ := Civ.number_bd h
  have H := Lib.hid h
  clear h
  go_enter Try.func4, Try.ntmps4
  go_wp2_with (first | (go_at_call 15; refine (code_date_ok _ _ _ _ H.out).mono ?_; rintro e w1 ⟨rfl, hb1⟩) | (go_at_call 16; refine (ref_date_ok _ _ h1 h2).mono ?_; rintro e w' ⟨⟨y', m', d', ⟨hv, hn⟩, rfl⟩, rfl⟩; obtain ⟨rfl, rfl, rfl⟩ := Civ.number_inj hv H.out hn; clear hn hv) | (go_at_call 8; refine (code_day_ok _ _ _ _ H.out).mono ?_; rintro e w2 ⟨rfl, hb2⟩) | (go_at_call 14; refine (lives_any _).mono ?_; rintro e w4 ⟨rfl, hb4⟩))
  go_ret
  exact ⟨rfl, below_tr (below_tr hb1 hb2 (Nat.le_refl _)) hb4 (Nat.le_refl _)⟩
theorem civilDates_any (n : Int) (w : World) : Calls Try.prog 4 #[.int .i64 n] w fun e w' => e = .returned (.bool true) ∧ Below w.heap.size w w' := by
  by_cases h : n < 0 ∨ 2932896 < n
  · exact civilDates_no n w h
  · obtain ⟨y, m, d, hv, rfl⟩ := number_all (n := n) (by omega) (by omega)
    exact civilDates_ok y m d w hv
end Go.Proofs.YtlnefkimokcbbaaRRRR
