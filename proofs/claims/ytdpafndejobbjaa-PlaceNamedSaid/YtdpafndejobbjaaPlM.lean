/- Where a line is supplied: the chapter's example, walked. -/
import Derived.Test.YtdpafndejobbjaaPlL
namespace Go.Proofs.Ytdpafndejobbjaa
open Go.RowKit
set_option maxRecDepth 100000
set_option linter.unusedSimpArgs false
set_option linter.unusedVariables false

theorem ex_good (W : World) : Calls Try.prog 28 #[.agg #[.int .i64 1, .int .i64 2, .string ⟨#[68, 69]⟩, .string ⟨#[70, 82]⟩, .string ⟨#[]⟩, .int .i64 1000, .bool false, .int .i64 0, .bool false], .bool true] W fun e w1 => e = .returned (.bool true) ∧ Below W.heap.size W w1 := code_goodLine 1 2 ⟨#[68, 69]⟩ ⟨#[70, 82]⟩ ⟨#[]⟩ 1000 false 0 false true W (by decide) (by decide) (by decide) true (by decide +kernel)
set_option maxRecDepth 1000000 in
theorem ex_case (A : Addr) (W : World) (hM : MaxL W) : Calls Try.prog 14 #[.string ⟨#[68, 69]⟩, .agg #[.string ⟨#[98]⟩, .bool true, .bool false, .string ⟨#[]⟩, .int .i64 19000, .string ⟨#[70, 82]⟩, .string ⟨#[]⟩, .string ⟨#[]⟩, .slice (some A) 1 1], .agg #[.int .i64 1, .int .i64 2, .string ⟨#[68, 69]⟩, .string ⟨#[70, 82]⟩, .string ⟨#[]⟩, .int .i64 1000, .bool false, .int .i64 0, .bool false]] W fun e w1 => e = .returned (.tuple #[.agg #[.bool true, .int .i64 1, .bool false, .int .i64 0, .int .i64 1, .int .i64 1, .int .i64 0, .bool false, .bool false], .int .i64 0]) ∧ Below W.heap.size W w1 := by
  have h := case_right ⟨#[68, 69]⟩ (bookD (some A)) 1 2 ⟨#[68, 69]⟩ ⟨#[70, 82]⟩ ⟨#[]⟩ 1000 false 0 false W hM (by decide) (show (⟨#[70, 82]⟩ : ByteArray).size ≤ 1000 by decide) (by decide) (by decide) (by decide) (show zoneOk ⟨#[68, 69]⟩ ⟨#[70, 82]⟩ = true by decide +kernel) (by decide +kernel) (Lib.hid (fun W => ex_good W))
  rw [show zif (movB 1) ⟨#[68, 69]⟩ ⟨#[68, 69]⟩ = 0 by decide +kernel, show zif (movB 1) ⟨#[68, 69]⟩ ⟨#[70, 82]⟩ = 1 by decide +kernel, show zif (locB 1) ⟨#[68, 69]⟩ ⟨#[]⟩ = 0 by decide +kernel, show zn ⟨#[68, 69]⟩ (bookD (some A)).country = 1 from (show zn ⟨#[68, 69]⟩ ⟨#[70, 82]⟩ = 1 by decide +kernel)] at h
  exact h
theorem ex_state (A : Addr) (ov : Bool) (W : World) (hM : MaxL W) (s : ByteArray) (hs : stateS ⟨#[68, 69]⟩ true ⟨#[70, 82]⟩ 1 ⟨#[68, 69]⟩ ⟨#[70, 82]⟩ ⟨#[]⟩ 0 1 1 false ov = s) : Calls Try.prog 20 #[.string ⟨#[68, 69]⟩, .agg #[.string ⟨#[98]⟩, .bool true, .bool false, .string ⟨#[]⟩, .int .i64 19000, .string ⟨#[70, 82]⟩, .string ⟨#[]⟩, .string ⟨#[]⟩, .slice (some A) 1 1], .agg #[.int .i64 1, .int .i64 2, .string ⟨#[68, 69]⟩, .string ⟨#[70, 82]⟩, .string ⟨#[]⟩, .int .i64 1000, .bool false, .int .i64 0, .bool false], .agg #[.bool true, .int .i64 1, .bool false, .int .i64 0, .int .i64 1, .int .i64 1, .int .i64 0, .bool false, .bool ov]] W fun e w1 => e = .returned (.tuple #[.string s, .int .i64 0]) ∧ Below W.heap.size W w1 := by
  have h := state_right ⟨#[68, 69]⟩ (bookD (some A)) 1 2 ⟨#[68, 69]⟩ ⟨#[70, 82]⟩ ⟨#[]⟩ 1000 false 0 false true 1 false 0 1 1 0 false ov 0 1 1 0 W hM (Lib.hid (fun W hM => ex_case A W hM))
  rw [show stateS ⟨#[68, 69]⟩ (bookD (some A)).sale (bookD (some A)).country 1 ⟨#[68, 69]⟩ ⟨#[70, 82]⟩ ⟨#[]⟩ 0 1 1 false ov = s from hs] at h
  exact h
set_option maxHeartbeats 4000000 in
theorem lives17_any  (w : World) (hM : MaxL w) : Calls Try.prog 13 #[] w fun e w1 => e = .returned (.bool true) ∧ Below w.heap.size w w1 := by
  have HM := Lib.hid hM
  clear hM
  go_enter Try.func13, Try.ntmps13
  go_wp2_with (go_at_call 25; refine (code_book _).mono ?_; rintro e w1 ⟨A, rfl, hb⟩; have HW1 := Lib.hid hb; clear hb; refine Stop.out ?_)
  unfold Stop
  have HC := Lib.hid (fun W hM => ex_case A W hM)
  have HS0 := Lib.hid (fun W hM => ex_state A false W hM ⟨#[68, 69]⟩ (by decide +kernel))
  have HS1 := Lib.hid (fun W hM => ex_state A true W hM ⟨#[70, 82]⟩ (by decide +kernel))
  have h0 := heap_on (below_alloc (w1.alloc (.cells #[.string ⟨#[98]⟩, .bool true, .bool false, .string ⟨#[]⟩, .int .i64 19000, .string ⟨#[70, 82]⟩, .string ⟨#[]⟩, .string ⟨#[]⟩, .slice (some A) 1 1] 26)) (.cells #[.int .i64 1, .int .i64 2, .string ⟨#[68, 69]⟩, .string ⟨#[70, 82]⟩, .string ⟨#[]⟩, .int .i64 1000, .bool false, .int .i64 0, .bool false] 34)) (heap_alloc_new w1 (.cells #[.string ⟨#[98]⟩, .bool true, .bool false, .string ⟨#[]⟩, .int .i64 19000, .string ⟨#[70, 82]⟩, .string ⟨#[]⟩, .string ⟨#[]⟩, .slice (some A) 1 1] 26))
  have h1 := heap_alloc_new (w1.alloc (.cells #[.string ⟨#[98]⟩, .bool true, .bool false, .string ⟨#[]⟩, .int .i64 19000, .string ⟨#[70, 82]⟩, .string ⟨#[]⟩, .string ⟨#[]⟩, .slice (some A) 1 1] 26)) (.cells #[.int .i64 1, .int .i64 2, .string ⟨#[68, 69]⟩, .string ⟨#[70, 82]⟩, .string ⟨#[]⟩, .int .i64 1000, .bool false, .int .i64 0, .bool false] 34)
  simp only [World.size_alloc] at h1
  have HD2 := Lib.hid h0
  have HL2 := Lib.hid h1
  have HW2 := Lib.hid (below_then HW1.out (show Below _ _ ((w1.alloc (.cells #[.string ⟨#[98]⟩, .bool true, .bool false, .string ⟨#[]⟩, .int .i64 19000, .string ⟨#[70, 82]⟩, .string ⟨#[]⟩, .string ⟨#[]⟩, .slice (some A) 1 1] 26)).alloc (.cells #[.int .i64 1, .int .i64 2, .string ⟨#[68, 69]⟩, .string ⟨#[70, 82]⟩, .string ⟨#[]⟩, .int .i64 1000, .bool false, .int .i64 0, .bool false] 34)) from below_more (below_alloc _ _)))
  clear h0 h1
  go_wp2_with (go_at_call 14; refine (HC.out _ (HM.out.below HW2.out)).mono ?_; rintro e w3 ⟨rfl, hb⟩; have HD3 := Lib.hid (heap_on hb HD2.out); have HL3 := Lib.hid (heap_on hb HL2.out); have HW3 := Lib.hid (below_then HW2.out hb); clear hb; refine Stop.out ?_)
  unfold Stop
  have hlt := heapLt HL3.out
  have hlt0 : w1.heap.size < w3.heap.size := Nat.lt_of_succ_lt hlt
  obtain ⟨d0, d1, d2, d3, d4, d5, d6, d7, d8⟩ := cellsLineV HD3.out; obtain ⟨l0, l1, l2, l3, l4, l5, l6, l7, l8⟩ := cellsLineV HL3.out
  have HDa := Lib.hid (heap_on (below_alloc w3 (.cells #[.bool true, .int .i64 1, .bool false, .int .i64 0, .int .i64 1, .int .i64 1, .int .i64 0, .bool false, .bool false] 37)) HD3.out)
  have HLa := Lib.hid (heap_on (below_alloc w3 (.cells #[.bool true, .int .i64 1, .bool false, .int .i64 0, .int .i64 1, .int .i64 1, .int .i64 0, .bool false, .bool false] 37)) HL3.out)
  have HKa := Lib.hid (heap_alloc_new w3 (.cells #[.bool true, .int .i64 1, .bool false, .int .i64 0, .int .i64 1, .int .i64 1, .int .i64 0, .bool false, .bool false] 37))
  have HWa := Lib.hid (below_then HW3.out (below_alloc w3 (.cells #[.bool true, .int .i64 1, .bool false, .int .i64 0, .int .i64 1, .int .i64 1, .int .i64 0, .bool false, .bool false] 37)))
  go_wp2_with (go_at_call 20; refine (HS0.out _ (HM.out.below HWa.out)).mono ?_; rintro e w4 ⟨rfl, hb⟩; have HD4 := Lib.hid (heap_on hb HDa.out); have HL4 := Lib.hid (heap_on hb HLa.out); have HK4 := Lib.hid (heap_on hb HKa.out); have HW4 := Lib.hid (below_then HWa.out hb); clear hb; clear d0 d1 d2 d3 d4 d5 d6 d7 d8 l0 l1 l2 l3 l4 l5 l6 l7 l8; refine Stop.out ?_)
  unfold Stop
  obtain ⟨d0, d1, d2, d3, d4, d5, d6, d7, d8⟩ := cellsLineV HD4.out; obtain ⟨l0, l1, l2, l3, l4, l5, l6, l7, l8⟩ := cellsLineV HL4.out
  obtain ⟨k0, k1, k2, k3, k4, k5, k6, k7, k8⟩ := cellsLineV HK4.out
  have kf := frozen9 HK4.out 8 (by omega)
  have HDb := Lib.hid ((heap_setCell_other w4 ⟨w3.heap.size, 8, none⟩ w1.heap.size (.bool true) (by simp; omega)).trans HD4.out)
  have HLb := Lib.hid ((heap_setCell_other w4 ⟨w3.heap.size, 8, none⟩ (w1.heap.size + 1) (.bool true) (by simp; omega)).trans HL4.out)
  have HKb : Hid ((w4.setCell ⟨w3.heap.size, 8, none⟩ (.bool true)).heap[w3.heap.size]? = some (.cells #[.bool true, .int .i64 1, .bool false, .int .i64 0, .int .i64 1, .int .i64 1, .int .i64 0, .bool false, .bool true] 37 (0, 0))) := Lib.hid (heap_setCell_same _ _ 8 _ _ _ HK4.out)
  have HWb := Lib.hid (below_set (b := w3.heap.size) (o := 8) (x := .bool true) HW3.out.size HW4.out)
  go_wp2_with (go_at_call 20; refine (HS1.out _ (HM.out.below HWb.out)).mono ?_; rintro e w5 ⟨rfl, hb⟩; have HD5 := Lib.hid (heap_on hb HDb.out); have HL5 := Lib.hid (heap_on hb HLb.out); have HK5 := Lib.hid (heap_on hb HKb.out); have HW5 := Lib.hid (below_then HWb.out hb); clear hb kf; clear d0 d1 d2 d3 d4 d5 d6 d7 d8 l0 l1 l2 l3 l4 l5 l6 l7 l8; clear k0 k1 k2 k3 k4 k5 k6 k7 k8; refine Stop.out ?_)
  unfold Stop
  obtain ⟨d0, d1, d2, d3, d4, d5, d6, d7, d8⟩ := cellsLineV HD5.out; obtain ⟨l0, l1, l2, l3, l4, l5, l6, l7, l8⟩ := cellsLineV HL5.out
  obtain ⟨k0, k1, k2, k3, k4, k5, k6, k7, k8⟩ := cellsLineV HK5.out
  go_wp2_with (first
    | (go_at_call 16; refine (code_moved _ _ _ _ _ _ _ _ _ _).mono ?_; rintro e w6 ⟨rfl, hw⟩; have hb : Below w5.heap.size w5 w6 := (by rw [hw]; exact below_alloc _ _); have HL6 := Lib.hid (heap_on hb HL5.out); have HW6 := Lib.hid (below_then HW5.out hb); clear hw hb; clear d0 d1 d2 d3 d4 d5 d6 d7 d8 l0 l1 l2 l3 l4 l5 l6 l7 l8; clear k0 k1 k2 k3 k4 k5 k6 k7 k8; refine Stop.out ?_))
  unfold Stop
  obtain ⟨l0, l1, l2, l3, l4, l5, l6, l7, l8⟩ := cellsLineV HL6.out
  have m1 : movB 1 = true := rfl
  have m2 : locB 1 = false := rfl
  go_wp2_with (first
    | (go_at_call 18; refine (code_local _ _ _ _ _ _ _ _ _ _).mono ?_; rintro e w7 ⟨rfl, hw⟩; have hb : Below w6.heap.size w6 w7 := (by rw [hw]; exact below_alloc _ _); have HW7 := Lib.hid (below_then HW6.out hb); clear hw hb))
  go_ret
  exact ⟨by rfl, HW7.out⟩
end Go.Proofs.Ytdpafndejobbjaa
