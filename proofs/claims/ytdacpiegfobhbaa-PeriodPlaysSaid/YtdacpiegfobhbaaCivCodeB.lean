/- The day behind so many of a year's months, as the program tells it. -/
import Derived.Test.YtdacpiegfobhbaaCivCodeA
namespace Go.Proofs.Ytdacpiegfobhbaa
open Go.RowKit
set_option maxRecDepth 100000

theorem begin_years {y : Int} (h1 : 1970 ≤ y) (h2 : y ≤ 9999) : (y - 1970) * 365 + leapsN y - leapsN 1970 = Civ.years (y - 1970).toNat := by
  rw [Civ.years_eq _ (by omega)]
  unfold leapsN
  omega
theorem leaps_bd {y : Int} (h1 : 1970 ≤ y) (h2 : y ≤ 9999) : 0 ≤ leapsN y ∧ leapsN y ≤ 10000 := by unfold leapsN; omega

theorem arr12 : Try.prog.arrayLen 82 = 12 := by kernel_rfl
theorem size12 (w : World) : (sizeOf (Try.prog.elem 82)).run Try.prog w = .ok 1 w := by kernel_rfl
theorem slice12 (a : Addr) (p : Nat) (hp : p ≤ 12) (w : World) :
    (Instr.sliceAt 82 (.pointer (some a)) none (some (.int .i64 p)) none).run Try.prog w = .ok (.slice (some a) p 12) w := by
  have := run_sliceAt_array_h (P := Try.prog) (w := w) (a := a) (t := 82) (ht := Try.underlying82) .i64 (p : Int) (by omega) (by rw [arr12]; omega)
  rw [this, arr12, size12]
  simp [slicedAt, Result.andThen, Addr.add]

theorem cells12 {f : Int} {w1 : World} (k : Nat) (hk : k < 12) : (w1.alloc (.cells #[.int .i64 31, .int .i64 f, .int .i64 31, .int .i64 30, .int .i64 31, .int .i64 30, .int .i64 31, .int .i64 31, .int .i64 30, .int .i64 31, .int .i64 30, .int .i64 31] 82)).cell? ⟨w1.heap.size, k, none⟩ = some (.int .i64 (lenF f (k + 1))) := by
  have hm : k = 0 ∨ k = 1 ∨ k = 2 ∨ k = 3 ∨ k = 4 ∨ k = 5 ∨ k = 6 ∨ k = 7 ∨ k = 8 ∨ k = 9 ∨ k = 10 ∨ k = 11 := by omega
  rcases hm with rfl | rfl | rfl | rfl | rfl | rfl | rfl | rfl | rfl | rfl | rfl | rfl <;> simp [lenF, go_sem]

set_option maxHeartbeats 1000000 in
theorem code_begin (y : Int) (p : Nat) (w : World) (h1 : 1970 ≤ y) (h2 : y ≤ 9999) (hp : p ≤ 12) :
    Calls Try.prog 54 #[.int .i64 y, .int .i64 p] w fun e w' => e = .returned (.int .i64 (Civ.years (y - 1970).toNat + Civ.months y p)) ∧ Below w.heap.size w w' := by
  obtain ⟨f, hf⟩ : ∃ f : Int, (if Civ.leap y then 29 else 28) = f := ⟨_, rfl⟩
  have F := Lib.hid hf
  have B := Lib.hid (begin_years h1 h2)
  obtain ⟨l1, l2⟩ := leaps_bd h1 h2
  obtain ⟨k1, k2⟩ := leaps_bd (y := 1970) (by omega) (by omega)
  clear hf
  have S := fun a => slice12 a p hp
  go_enter Try.func54, Try.ntmps54
  go_wp2_with (first
    | (go_at_call 62; refine (code_leaps _ _ (by omega) (by omega)).mono ?_; rintro e w' ⟨rfl, rfl⟩)
    | (go_at_call 63; refine (code_months_at F.out _).mono ?_; rintro e w1 ⟨rfl, hb⟩; unfold monthsV))
  have hc := fun k hk => cells12 (f := f) (w1 := w1) k hk
  have hB : Below w.heap.size w (w1.alloc (.cells #[.int .i64 31, .int .i64 f, .int .i64 31, .int .i64 30, .int .i64 31, .int .i64 30, .int .i64 31, .int .i64 31, .int .i64 30, .int .i64 31, .int .i64 30, .int .i64 31] 82)) := hb.alloc hb.size _
  generalize hW : w1.alloc (.cells #[.int .i64 31, .int .i64 f, .int .i64 31, .int .i64 30, .int .i64 31, .int .i64 30, .int .i64 31, .int .i64 31, .int .i64 30, .int .i64 31, .int .i64 30, .int .i64 31] 82) = W at hc hB ⊢
  generalize hN : w1.heap.size = b at hc ⊢
  clear hW hN hb
  have HC := Lib.hid hc
  clear hc S
  go_loop [5, 22] (fun n i => ∃ k : Nat, k ≤ p ∧ i = .int .i64 k ∧ n = .int .i64 (Civ.years (y - 1970).toNat + Civ.months y k)) (fun _ i => p - (intOf i).toNat)
  case atStart => exact ⟨0, Nat.zero_le _, rfl, by rw [B.out]; simp [Civ.months]⟩
  case round =>
    obtain ⟨k, hk, rfl, rfl⟩ := hrel
    have yb := Civ.years_bd (y - 1970).toNat (by omega)
    have mb := Civ.months_bd y k
    by_cases hlt : k < p
    · have hcell := HC.out k (by omega)
      have lb := Civ.len_bd y ((k : Int) + 1)
      rw [len_lenF h1 h2 (by omega) (by omega), F.out] at lb
      have M : Hid (Civ.months y (k + 1) = Civ.months y k + lenF f (k + 1)) := Lib.hid (by rw [← F.out, ← len_lenF h1 h2 (by omega) (by omega)]; rfl)
      go_wp2
      go_round
      case rel => exact ⟨k + 1, by omega, by go_num, by rw [M.out]; go_num⟩
      case measure => simp [intOf]; omega
    · go_wp2
      go_ret
      exact ⟨ret_int (by rw [show k = p by omega]), hB⟩
end Go.Proofs.Ytdacpiegfobhbaa
