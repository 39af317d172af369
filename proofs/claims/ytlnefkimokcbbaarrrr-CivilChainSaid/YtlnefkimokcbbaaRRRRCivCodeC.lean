/- Days, right periods, and where they begin and end, as the program tells them. -/
import Derived.Test.YtlnefkimokcbbaaRRRRCivCodeB
namespace Go.Proofs.YtlnefkimokcbbaaRRRR
open Go.RowKit

theorem below_same {B : Nat} {w w' : World} (h : w = w') : Below B w w' := h ▸ Below.refl _ _

theorem code_leap (y : Int) (w : World) :
    Calls Try.prog 10 #[.int .i64 y] w fun e w' => e = .returned (.bool (Civ.leap y)) ∧ Below w.heap.size w w' :=
  (own_leap y w).mono fun _ _ ⟨he, hw⟩ => ⟨he, below_same hw⟩

/-- how many months a period of a kind has, or 0 -/
def kM (k : Int) : Int := if k = 1 then 1 else if k = 2 then 3 else if k = 3 then 12 else 0
set_option maxHeartbeats 400000 in
theorem code_kind (k : Int) (w : World) :
    Calls Try.prog 40 #[.int .i64 k] w fun e w' => e = .returned (.int .i64 (kM k)) ∧ w = w' := by
  go_enter Try.func40, Try.ntmps40
  go_wp2
  all_goals go_ret
  all_goals exact ⟨ret_int (by simp_all [kM]), rfl⟩
theorem code_kind_at {k K : Int} (h : kM k = K) (w : World) :
    Calls Try.prog 40 #[.int .i64 k] w fun e w' => e = .returned (.int .i64 K) ∧ w = w' := by
  have := code_kind k w
  rw [h] at this
  exact this

theorem code_len_at {y m L : Int} (h : Civ.len y m = L) (w : World) :
    Calls Try.prog 12 #[.int .i64 y, .int .i64 m] w fun e w' => e = .returned (.int .i64 L) ∧ Below w.heap.size w w' := by
  have := code_len y m w
  rw [h] at this
  exact this
set_option maxHeartbeats 400000 in
theorem code_day_no (y m d : Int) (w : World) (h : Civ.len y m = 0 ∨ d < 1 ∨ Civ.len y m < d) :
    Calls Try.prog 8 #[.int .i64 y, .int .i64 m, .int .i64 d] w fun e w' => e = .returned (.tuple #[.int .i64 0, .int .i64 30]) ∧ Below w.heap.size w w' := by
  by_cases h1 : d < 1
  · clear h
    go_enter Try.func8, Try.ntmps8
    go_wp2
    go_ret2
    exact ⟨rfl, Below.refl _ _⟩
  · obtain ⟨L, hL⟩ : ∃ L, Civ.len y m = L := ⟨_, rfl⟩
    rw [hL] at h
    have hb := Civ.len_bd y m
    rw [hL] at hb
    have H := Lib.hid hL
    have h2 : L < d := by omega
    clear h hL
    go_enter Try.func8, Try.ntmps8
    go_wp2_with (go_at_call 12; refine (code_len_at H.out _).mono ?_; rintro e w1 ⟨rfl, hb⟩)
    go_ret2
    exact ⟨rfl, by assumption⟩
theorem begin_at (y m : Int) (w : World) (h1 : 1970 ≤ y) (h2 : y ≤ 9999) (h3 : 0 ≤ m) (h4 : m ≤ 12) :
    Calls Try.prog 31 #[.int .i64 y, .int .i64 m] w fun e w' => e = .returned (.int .i64 (Civ.years (y - 1970).toNat + Civ.months y m.toNat)) ∧ Below w.heap.size w w' := by
  have := code_begin y m.toNat w h1 h2 (by omega)
  rw [show ((m.toNat : Nat) : Int) = m by omega] at this
  exact this
set_option maxHeartbeats 400000 in
theorem code_day_ok (y m d : Int) (w : World) (h : Civ.valid y m d) :
    Calls Try.prog 8 #[.int .i64 y, .int .i64 m, .int .i64 d] w fun e w' => e = .returned (.tuple #[.int .i64 (Civ.number y m d), .int .i64 0]) ∧ Below w.heap.size w w' := by
  obtain ⟨h1, h2, h3, h4⟩ := Civ.valid_bd h
  obtain ⟨_, h5, h6⟩ := h
  have yb := Civ.years_bd (y - 1970).toNat (by omega)
  have mb := Civ.months_bd y (m - 1).toNat
  have lb := Civ.len_bd y m
  obtain ⟨Y, hY⟩ : ∃ Y, Civ.years (y - 1970).toNat + Civ.months y (m - 1).toNat = Y := ⟨_, rfl⟩
  have hY0 : 0 ≤ Y ∧ Y ≤ 2940000 := by omega
  obtain ⟨hY1, hY2⟩ := hY0
  have HY := Lib.hid hY
  obtain ⟨L, hL⟩ : ∃ L, Civ.len y m = L := ⟨_, rfl⟩
  rw [hL] at h6 lb
  have HL := Lib.hid hL
  clear hL hY mb yb
  have BG := fun w => begin_at y (m - 1) w h1 h2 (by omega) (by omega)
  rw [HY.out] at BG
  have BG := Lib.hid BG
  go_enter Try.func8, Try.ntmps8
  go_wp2_with (first
    | (go_at_call 12; refine (code_len_at HL.out _).mono ?_; rintro e w1 ⟨rfl, hb1⟩)
    | (go_at_call 31; refine (BG.out _).mono ?_; rintro e w2 ⟨rfl, hb2⟩))
  go_ret2
  exact ⟨by unfold Civ.number; rw [HY.out]; rfl, by first | exact hb1.trans (hb2.mono hb1.size) | exact hb1.trans hb2⟩
end Go.Proofs.YtlnefkimokcbbaaRRRR
