/- The chapter's example of a row. -/
import Derived.Test.YtaccjfoifkfpfaaDoorEnG
namespace Go.Proofs.YtaccjfoifkfpfaaDoor
open Go.RowKit
set_option maxRecDepth 100000
set_option linter.unusedSimpArgs false
set_option linter.unusedVariables false

def soldV : RowV := ⟨0, 0, 0, 0, 0, 0, ⟨#[97]⟩, true, 1, 1, 1900, ⟨#[68, 69]⟩, ⟨#[]⟩, 1000, 190, 0, false⟩
theorem code_sold (w : World) : Calls Tryd.prog 21 #[] w fun e w1 => e = .returned (.agg (rowA soldV)) ∧ Below w.heap.size w w1 := by
  go_enter Tryd.func21, Tryd.ntmps21
  go_wp2
  exact bodyPost_ret (v := .agg (rowA soldV)) (results_cell_row Tryd.results21 _ _ w.heap.size 25 (rowA soldV) (0, 0) _ rfl (heap_alloc_new w _) Tryd.underlying25 rfl (by kernel_rfl)) rfl ⟨rfl, below_alloc _ _⟩
theorem dec_1900 : Lib.decDigits 1900 = [49, 57, 48, 48] := by
  rw [Lib.decDigits_eq, Lib.nDigits_unique 3 1900 (by decide) (by decide)]
  decide
theorem dec_1000 : Lib.decDigits 1000 = [49, 48, 48, 48] := by
  rw [Lib.decDigits_eq, Lib.nDigits_unique 3 1000 (by decide) (by decide)]
  decide
theorem dec_190 : Lib.decDigits 190 = [49, 57, 48] := by
  rw [Lib.decDigits_eq, Lib.nDigits_unique 2 190 (by decide) (by decide)]
  decide
theorem dec_0 : Lib.decDigits 0 = [48] := by
  rw [Lib.decDigits_eq, Lib.nDigits_small (by decide)]
  decide
theorem itoa_nat (n : Nat) : itoaS (n : Int) = ⟨(Lib.decDigits n).toArray⟩ := by
  unfold itoaS Lib.itoa
  rw [if_neg (by omega), Int.toNat_natCast]
theorem sold_B : RowB soldV := fun k => by
  have h : colV soldV k = 1900 ∨ colV soldV k = 1000 ∨ colV soldV k = 190 ∨ colV soldV k = 0 := by
    match k with
    | 0 => exact .inl rfl
    | 1 => exact .inr (.inl rfl)
    | 2 => exact .inr (.inr (.inl rfl))
    | 3 => exact .inr (.inr (.inl rfl))
    | k + 4 => exact .inr (.inr (.inr rfl))
  omega
theorem sold_line : lineV soldV = ⟨#[104, 111, 109, 101, 32, 83, 32, 49, 57, 48, 48, 32, 49, 48, 48, 48, 32, 49, 57, 48, 32, 49, 57, 48, 32, 48]⟩ := by
  have h0 : itoaS (colV soldV 0) = ⟨#[49, 57, 48, 48]⟩ := by have := itoa_nat 1900; rw [dec_1900] at this; exact this
  have h1 : itoaS (colV soldV 1) = ⟨#[49, 48, 48, 48]⟩ := by have := itoa_nat 1000; rw [dec_1000] at this; exact this
  have h2 : itoaS (colV soldV 2) = ⟨#[49, 57, 48]⟩ := by have := itoa_nat 190; rw [dec_190] at this; exact this
  have h3 : itoaS (colV soldV 3) = ⟨#[49, 57, 48]⟩ := by have := itoa_nat 190; rw [dec_190] at this; exact this
  have h4 : itoaS (colV soldV 4) = ⟨#[48]⟩ := by have := itoa_nat 0; rw [dec_0] at this; exact this
  have hl : lateB soldV = false := rfl
  unfold lineV
  rw [hl, if_neg (by decide)]
  show cat (cat (cat (cat (cat (cat (nameV 1) (sideS true)) _) _) _) _) _ = _
  rw [h0, h1, h2, h3, h4]
  decide
theorem en_lives (w : World) (hT : TabW w) : Calls Tryd.prog 7 #[] w fun e w1 => e = .returned (.bool true) ∧ Below w.heap.size w w1 := by
  have HS := Lib.hid (code_sold w)
  have HT := Lib.hid hT
  have HL : Hid (∀ W, Below w.heap.size w W → Calls Tryd.prog 19 #[.agg (rowA soldV)] W fun e w' => e = .returned (.string ⟨#[104, 111, 109, 101, 32, 83, 32, 49, 57, 48, 48, 32, 49, 48, 48, 48, 32, 49, 57, 48, 32, 49, 57, 48, 32, 48]⟩) ∧ Below W.heap.size W w') := Lib.hid (fun W hb => by
    have h := code_line soldV W sold_B (HT.out.below hb)
    rw [sold_line] at h
    exact h)
  obtain ⟨R, hR⟩ : ∃ R, R = rowA soldV := ⟨_, rfl⟩
  rw [← hR] at HS HL
  clear hT hR
  go_enter Tryd.func7, Tryd.ntmps7
  go_wp2_with (first
    | (go_at_call 21; refine HS.out.mono ?_; rintro e w1 ⟨rfl, hb⟩; have HB1 := Lib.hid hb; clear hb)
    | (go_at_call 19; refine (HL.out _ HB1.out).mono ?_; rintro e w2 ⟨rfl, hb⟩; have HB2 := Lib.hid (below_then HB1.out hb); clear hb))
  go_ret
  exact ⟨rfl, HB2.out⟩
end Go.Proofs.YtaccjfoifkfpfaaDoor
