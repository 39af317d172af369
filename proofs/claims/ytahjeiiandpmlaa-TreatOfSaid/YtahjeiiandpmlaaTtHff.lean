/- Whether a treatment holds: the document's own, walked. -/
import Derived.Test.YtahjeiiandpmlaaTtD
import Derived.WalkMore
namespace Go.Proofs.Ytahjeiiandpmlaa
open Go.RowKit
set_option maxRecDepth 100000
set_option linter.unusedSimpArgs false
set_option linter.unusedVariables false

set_option maxHeartbeats 20000000 in
theorem ref_holds_1_ff (t : Int) (fr to_ pa pl : Int) (bu ov : Bool) (w : World) : Calls Try.prog 12 #[.int .i64 t, .agg #[.bool false, .int .i64 1, .bool false, .int .i64 fr, .int .i64 to_, .int .i64 pa, .int .i64 pl, .bool bu, .bool ov]] w fun e w1 => e = .returned (.bool (holdsB t false 1 false fr to_ pa pl bu ov)) ∧ Below w.heap.size w w1 := by
  have eL : locB 1 = false := by decide
  go_enter Try.func12, Try.ntmps12
  go_wp2_with (go_at_call 25; refine (ref_local _ _ _ _ _ _ _ _ _ _).mono ?_; rintro e w1 ⟨rfl, rfl⟩; rw [eL])
  all_goals
    go_ret
    exact ⟨ret_bool (by first | (simp_all [holdsB, outB, workB]; done) | (simp_all [holdsB, outB, workB]; rw [beq_false_of_ne (by assumption : ¬ su = 2), beq_false_of_ne (by assumption : ¬ su = 6)]; simp)), by repeat (first | exact below_alloc _ _ | exact below_same _ | assumption | refine below_more ?_)⟩
set_option maxHeartbeats 20000000 in
theorem ref_holds_2_ff (t : Int) (fr to_ pa pl : Int) (bu ov : Bool) (w : World) : Calls Try.prog 12 #[.int .i64 t, .agg #[.bool false, .int .i64 2, .bool false, .int .i64 fr, .int .i64 to_, .int .i64 pa, .int .i64 pl, .bool bu, .bool ov]] w fun e w1 => e = .returned (.bool (holdsB t false 2 false fr to_ pa pl bu ov)) ∧ Below w.heap.size w w1 := by
  have eL : locB 2 = false := by decide
  go_enter Try.func12, Try.ntmps12
  go_wp2_with (go_at_call 25; refine (ref_local _ _ _ _ _ _ _ _ _ _).mono ?_; rintro e w1 ⟨rfl, rfl⟩; rw [eL])
  all_goals
    go_ret
    exact ⟨ret_bool (by first | (simp_all [holdsB, outB, workB]; done) | (simp_all [holdsB, outB, workB]; rw [beq_false_of_ne (by assumption : ¬ su = 2), beq_false_of_ne (by assumption : ¬ su = 6)]; simp)), by repeat (first | exact below_alloc _ _ | exact below_same _ | assumption | refine below_more ?_)⟩
set_option maxHeartbeats 20000000 in
theorem ref_holds_6_ff (t : Int) (fr to_ pa pl : Int) (bu ov : Bool) (w : World) : Calls Try.prog 12 #[.int .i64 t, .agg #[.bool false, .int .i64 6, .bool false, .int .i64 fr, .int .i64 to_, .int .i64 pa, .int .i64 pl, .bool bu, .bool ov]] w fun e w1 => e = .returned (.bool (holdsB t false 6 false fr to_ pa pl bu ov)) ∧ Below w.heap.size w w1 := by
  have eL : locB 6 = false := by decide
  go_enter Try.func12, Try.ntmps12
  go_wp2_with (go_at_call 25; refine (ref_local _ _ _ _ _ _ _ _ _ _).mono ?_; rintro e w1 ⟨rfl, rfl⟩; rw [eL])
  all_goals
    go_ret
    exact ⟨ret_bool (by first | (simp_all [holdsB, outB, workB]; done) | (simp_all [holdsB, outB, workB]; rw [beq_false_of_ne (by assumption : ¬ su = 2), beq_false_of_ne (by assumption : ¬ su = 6)]; simp)), by repeat (first | exact below_alloc _ _ | exact below_same _ | assumption | refine below_more ?_)⟩
set_option maxHeartbeats 20000000 in
theorem ref_holds_7_ff (t : Int) (fr to_ pa pl : Int) (bu ov : Bool) (w : World) : Calls Try.prog 12 #[.int .i64 t, .agg #[.bool false, .int .i64 7, .bool false, .int .i64 fr, .int .i64 to_, .int .i64 pa, .int .i64 pl, .bool bu, .bool ov]] w fun e w1 => e = .returned (.bool (holdsB t false 7 false fr to_ pa pl bu ov)) ∧ Below w.heap.size w w1 := by
  have eL : locB 7 = false := by decide
  go_enter Try.func12, Try.ntmps12
  go_wp2_with (go_at_call 25; refine (ref_local _ _ _ _ _ _ _ _ _ _).mono ?_; rintro e w1 ⟨rfl, rfl⟩; rw [eL])
  all_goals
    go_ret
    exact ⟨ret_bool (by first | (simp_all [holdsB, outB, workB]; done) | (simp_all [holdsB, outB, workB]; rw [beq_false_of_ne (by assumption : ¬ su = 2), beq_false_of_ne (by assumption : ¬ su = 6)]; simp)), by repeat (first | exact below_alloc _ _ | exact below_same _ | assumption | refine below_more ?_)⟩
end Go.Proofs.Ytahjeiiandpmlaa
