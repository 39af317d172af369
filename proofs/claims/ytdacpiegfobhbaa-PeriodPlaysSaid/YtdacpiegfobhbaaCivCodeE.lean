/- The day of a number, as the program tells it: two searches. -/
import Derived.Test.YtdacpiegfobhbaaCivCodeD
import Derived.Deep.RegionHeld3
import Derived.IntWalk
namespace Go.Proofs.Ytdacpiegfobhbaa
open Go.RowKit
set_option maxRecDepth 100000

set_option maxHeartbeats 1000000 in
theorem search1 (a : Nat) (N R : Nat) (hRN : R ≤ N) (hN : N ≤ 10000) (W : World)
    (hf : ∀ h : Nat, h < N → ∀ w', Below W.heap.size W w' → Calls Try.prog 53 #[.int .i64 h, .pointer (some ⟨a, 0, none⟩)] w' fun e w'' => e = .returned (.bool (decide (R ≤ h))) ∧ Below w'.heap.size w' w'') :
    Calls Try.prog 52 #[.int .i64 N, .func (Fn.func 53) #[] #[.pointer (some ⟨a, 0, none⟩)]] W fun e w' => e = .returned (.int .i64 R) ∧ Below W.heap.size W w' := by
  have HF := Lib.hid hf
  clear hf
  go_enter Try.func52, Try.ntmps52
  go_wp2
  go_loopw [5, 6] (fun i j wr => ∃ I J : Nat, I ≤ R ∧ R ≤ J ∧ J ≤ N ∧ i = .int .i64 I ∧ j = .int .i64 J ∧ Below W.heap.size W wr) (fun i j _ => (intOf j).toNat - (intOf i).toNat)
  case atStart => exact ⟨0, N, Nat.zero_le _, hRN, Nat.le_refl _, rfl, rfl, Below.refl _ _⟩
  case round =>
    obtain ⟨I, J, hI, hJ, hJN, rfl, rfl, hb⟩ := hrel
    by_cases hlt : I < J
    · have Hf := HF.out ((I + J) / 2) (by omega) _ hb
      have es : (((I + J) / 2 : Nat) : Int) = ((I : Int) + J) / 2 := by omega
      rw [es] at Hf
      clear es
      by_cases hc : R ≤ (I + J) / 2
      · have hd := decide_eq_true hc
        rw [hd] at Hf
        clear hd
        have Hf := Lib.hid Hf
        go_wp2_with (go_at_call 53; refine Hf.out.mono ?_; rintro e w1 ⟨rfl, hb1⟩)
        go_roundw
        case rel => exact ⟨I, (I + J) / 2, by omega, by omega, by omega, rfl, by go_num, hb.trans (hb1.mono hb.size)⟩
        case measure => simp [intOf]; omega
      · have hd := decide_eq_false hc
        rw [hd] at Hf
        clear hd
        have Hf := Lib.hid Hf
        go_wp2_with (go_at_call 53; refine Hf.out.mono ?_; rintro e w1 ⟨rfl, hb1⟩)
        go_roundw
        case rel => exact ⟨(I + J) / 2 + 1, J, by omega, by omega, by omega, by go_num, rfl, hb.trans (hb1.mono hb.size)⟩
        case measure => simp [intOf]; omega
    · go_wp2
      go_ret
      exact ⟨ret_int (by omega), by assumption⟩
set_option maxHeartbeats 1000000 in
theorem search2 (a b : Nat) (N R : Nat) (hRN : R ≤ N) (hN : N ≤ 10000) (W : World)
    (hf : ∀ h : Nat, h < N → ∀ w', Below W.heap.size W w' → Calls Try.prog 55 #[.int .i64 h, .pointer (some ⟨a, 0, none⟩), .pointer (some ⟨b, 0, none⟩)] w' fun e w'' => e = .returned (.bool (decide (R ≤ h))) ∧ Below w'.heap.size w' w'') :
    Calls Try.prog 52 #[.int .i64 N, .func (Fn.func 55) #[] #[.pointer (some ⟨a, 0, none⟩), .pointer (some ⟨b, 0, none⟩)]] W fun e w' => e = .returned (.int .i64 R) ∧ Below W.heap.size W w' := by
  have HF := Lib.hid hf
  clear hf
  go_enter Try.func52, Try.ntmps52
  go_wp2
  go_loopw [5, 6] (fun i j wr => ∃ I J : Nat, I ≤ R ∧ R ≤ J ∧ J ≤ N ∧ i = .int .i64 I ∧ j = .int .i64 J ∧ Below W.heap.size W wr) (fun i j _ => (intOf j).toNat - (intOf i).toNat)
  case atStart => exact ⟨0, N, Nat.zero_le _, hRN, Nat.le_refl _, rfl, rfl, Below.refl _ _⟩
  case round =>
    obtain ⟨I, J, hI, hJ, hJN, rfl, rfl, hb⟩ := hrel
    by_cases hlt : I < J
    · have Hf := HF.out ((I + J) / 2) (by omega) _ hb
      have es : (((I + J) / 2 : Nat) : Int) = ((I : Int) + J) / 2 := by omega
      rw [es] at Hf
      clear es
      by_cases hc : R ≤ (I + J) / 2
      · have hd := decide_eq_true hc
        rw [hd] at Hf
        clear hd
        have Hf := Lib.hid Hf
        go_wp2_with (go_at_call 55; refine Hf.out.mono ?_; rintro e w1 ⟨rfl, hb1⟩)
        go_roundw
        case rel => exact ⟨I, (I + J) / 2, by omega, by omega, by omega, rfl, by go_num, hb.trans (hb1.mono hb.size)⟩
        case measure => simp [intOf]; omega
      · have hd := decide_eq_false hc
        rw [hd] at Hf
        clear hd
        have Hf := Lib.hid Hf
        go_wp2_with (go_at_call 55; refine Hf.out.mono ?_; rintro e w1 ⟨rfl, hb1⟩)
        go_roundw
        case rel => exact ⟨(I + J) / 2 + 1, J, by omega, by omega, by omega, by go_num, rfl, hb.trans (hb1.mono hb.size)⟩
        case measure => simp [intOf]; omega
    · go_wp2
      go_ret
      exact ⟨ret_int (by omega), by assumption⟩

theorem one_later {a : Nat} {v : Value} {W w1 w2 : World} (ha : a < W.heap.size) (h : w1.cell? ⟨a, 0, none⟩ = some v ∧ Below W.heap.size W w1) (hb : Below w1.heap.size w1 w2) :
    w2.cell? ⟨a, 0, none⟩ = some v ∧ Below W.heap.size W w2 :=
  ⟨by rw [hb.cell (p := ⟨a, 0, none⟩) (Nat.lt_of_lt_of_le ha h.2.size)]; exact h.1, h.2.trans (hb.mono h.2.size)⟩
set_option maxHeartbeats 1000000 in
theorem code_date1 (a : Nat) (n : Int) (h : Nat) (w : World) (hh : h < 8029) (ha : a < w.heap.size) (c : w.cell? ⟨a, 0, none⟩ = some (.int .i64 n)) :
    Calls Try.prog 53 #[.int .i64 h, .pointer (some ⟨a, 0, none⟩)] w fun e w' => e = .returned (.bool (decide (n < Civ.years (h + 1)))) ∧ Below w.heap.size w w' := by
  have yb := Civ.years_bd (h + 1) (by omega)
  have E : Hid (Civ.years ((1970 + (h : Int) + 1) - 1970).toNat + Civ.months (1970 + (h : Int) + 1) (0 : Int).toNat = Civ.years (h + 1)) := Lib.hid (by
    rw [show ((1970 + (h : Int) + 1) - 1970).toNat = h + 1 by omega]; simp [Civ.months])
  have BG := fun w => begin_at (1970 + (h : Int) + 1) 0 w (by omega) (by omega) (by omega) (by omega)
  rw [E.out] at BG
  have BG := Lib.hid BG
  generalize Civ.years (h + 1) = Y at *
  go_enter Try.func53, Try.ntmps53
  go_wp2
  have e1 : IntKind.i64.wrap (1970 + (h : Int)) = 1970 + (h : Int) := IntWalk.i64_in _ (by omega)
  have e2 : IntKind.i64.wrap (1970 + (h : Int) + 1) = 1970 + (h : Int) + 1 := IntWalk.i64_in _ (by omega)
  have hS : w.cell? ⟨a, 0, none⟩ = some (.int .i64 n) ∧ Below w.heap.size w w := ⟨c, Below.refl _ _⟩
  go_region_held3 (fun w' => w'.cell? ⟨a, 0, none⟩ = some (.int .i64 n) ∧ Below w.heap.size w w')
    (first | exact one_later ha (by assumption) hb | exact ⟨hS.1, hS.2.drew⟩)
    (first | (go_at_call 54; refine (BG.out _).mono ?_; rintro e w1 ⟨rfl, hb⟩))
  have hH := ‹_ ∧ Below w.heap.size w w1›
  go_wp2
  go_ret
  exact ⟨rfl, hH.2⟩

theorem two_later_d {a b : Nat} {v u : Value} {W w1 w2 : World} (ha : a < W.heap.size) (hB : b < W.heap.size) (h : w1.cell? ⟨a, 0, none⟩ = some v ∧ w1.cell? ⟨b, 0, none⟩ = some u ∧ Below W.heap.size W w1) (hb : Below w1.heap.size w1 w2) :
    w2.cell? ⟨a, 0, none⟩ = some v ∧ w2.cell? ⟨b, 0, none⟩ = some u ∧ Below W.heap.size W w2 :=
  ⟨by rw [hb.cell (p := ⟨a, 0, none⟩) (Nat.lt_of_lt_of_le ha h.2.2.size)]; exact h.1, by rw [hb.cell (p := ⟨b, 0, none⟩) (Nat.lt_of_lt_of_le hB h.2.2.size)]; exact h.2.1, h.2.2.trans (hb.mono h.2.2.size)⟩
set_option maxHeartbeats 1000000 in
theorem code_date2 (a b : Nat) (y n : Int) (h : Nat) (w : World) (hh : h < 11) (h1 : 1970 ≤ y) (h2 : y ≤ 9999) (ha : a < w.heap.size) (hB : b < w.heap.size)
    (ca : w.cell? ⟨a, 0, none⟩ = some (.int .i64 y)) (cb : w.cell? ⟨b, 0, none⟩ = some (.int .i64 n)) :
    Calls Try.prog 55 #[.int .i64 h, .pointer (some ⟨a, 0, none⟩), .pointer (some ⟨b, 0, none⟩)] w fun e w' => e = .returned (.bool (decide (n < Civ.years (y - 1970).toNat + Civ.months y (h + 1)))) ∧ Below w.heap.size w w' := by
  have yb := Civ.years_bd (y - 1970).toNat (by omega)
  have mb := Civ.months_bd y (h + 1)
  have E : Hid (Civ.years (y - 1970).toNat + Civ.months y ((h : Int) + 1).toNat = Civ.years (y - 1970).toNat + Civ.months y (h + 1)) := Lib.hid rfl
  have BG := fun w => begin_at y ((h : Int) + 1) w h1 h2 (by omega) (by omega)
  rw [E.out] at BG
  clear E
  have BG := Lib.hid BG
  have hs : 0 ≤ Civ.years (y - 1970).toNat + Civ.months y (h + 1) ∧ Civ.years (y - 1970).toNat + Civ.months y (h + 1) ≤ 2940000 := by omega
  clear yb mb
  generalize Civ.years (y - 1970).toNat + Civ.months y (h + 1) = Y at *
  go_enter Try.func55, Try.ntmps55
  go_wp2
  have e1 : IntKind.i64.wrap ((h : Int) + 1) = (h : Int) + 1 := IntWalk.i64_in _ (by omega)
  have hS : w.cell? ⟨a, 0, none⟩ = some (.int .i64 y) ∧ w.cell? ⟨b, 0, none⟩ = some (.int .i64 n) ∧ Below w.heap.size w w := ⟨ca, cb, Below.refl _ _⟩
  go_region_held3 (fun w' => w'.cell? ⟨a, 0, none⟩ = some (.int .i64 y) ∧ w'.cell? ⟨b, 0, none⟩ = some (.int .i64 n) ∧ Below w.heap.size w w')
    (first | exact two_later_d ha hB (by assumption) hb | exact ⟨hS.1, hS.2.1, hS.2.2.drew⟩)
    (first | (go_at_call 54; refine (BG.out _).mono ?_; rintro e w1 ⟨rfl, hb⟩))
  have hH := ‹_ ∧ _ ∧ Below w.heap.size w w1›
  go_wp2
  go_ret
  exact ⟨rfl, hH.2.2⟩

theorem year_at {y m d : Int} (hv : Civ.valid y m d) (h : Nat) : decide (Civ.number y m d < Civ.years (h + 1)) = decide ((y - 1970).toNat ≤ h) := by
  obtain ⟨a, b, _, _⟩ := Civ.number_in hv
  have hv' := Civ.valid_bd hv
  rw [decide_eq_decide]
  constructor
  · intro g
    by_cases c : (y - 1970).toNat ≤ h
    · exact c
    · have := Civ.years_up (h + 1) (y - 1970).toNat (by omega); omega
  · intro g
    have := Civ.years_up ((y - 1970).toNat + 1) (h + 1) (by omega)
    omega
theorem month_at {y m d : Int} (hv : Civ.valid y m d) (h : Nat) : decide (Civ.number y m d < Civ.years (y - 1970).toNat + Civ.months y (h + 1)) = decide ((m - 1).toNat ≤ h) := by
  obtain ⟨_, _, a, b⟩ := Civ.number_in hv
  rw [decide_eq_decide]
  constructor
  · intro g
    by_cases c : (m - 1).toNat ≤ h
    · exact c
    · have := Civ.months_up y (h + 1) (m - 1).toNat (by omega); omega
  · intro g
    have := Civ.months_up y ((m - 1).toNat + 1) (h + 1) (by omega)
    omega

set_option maxHeartbeats 400000 in
theorem code_date_no (n : Int) (w : World) (h : n < 0 ∨ 2932896 < n) :
    Calls Try.prog 43 #[.int .i64 n] w fun e w' => e = .returned (.tuple #[.int .i64 0, .int .i64 0, .int .i64 0, .int .i64 30]) ∧ Below w.heap.size w w' := by
  by_cases h0 : n < 0
  all_goals
    have h1 : 0 ≤ n → 2932896 < n := by omega
    try have h2 : 2932896 < n := by omega
    clear h h1
    go_enter Try.func43, Try.ntmps43
    go_wp2
    exact bodyPost_ret (v := .tuple #[.int .i64 0, .int .i64 0, .int .i64 0, .int .i64 30]) (by simp [results, Try.results43, go_sem]) rfl ⟨rfl, ((Below.refl _ _).alloc (Nat.le_refl _) _).alloc (by simp) _⟩
end Go.Proofs.Ytdacpiegfobhbaa
