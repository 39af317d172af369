/- Whether a treatment holds: the document's own, walked. -/
import Derived.Test.YtahjeiiandpmlaaTtD
import Derived.WalkMore
namespace Go.Proofs.Ytahjeiiandpmlaa
open Go.RowKit
set_option maxRecDepth 100000
set_option linter.unusedSimpArgs false
set_option linter.unusedVariables false

set_option maxHeartbeats 20000000 in
theorem ref_holds_1_ft (t : Int) (fr to_ pa pl : Int) (bu ov : Bool) (w : World) : Calls Try.prog 12 #[.int .i64 t, .agg #[.bool false, .int .i64 1, .bool true, .int .i64 fr, .int .i64 to_, .int .i64 pa, .int .i64 pl, .bool bu, .bool ov]] w fun e w1 => e = .returned (.bool (holdsB t false 1 true fr to_ pa pl bu ov)) ∧ Below w.heap.size w w1 := by
  have eL : locB 1 = false := by decide
  go_enter Try.func12, Try.ntmps12
  go_wp2_with (go_at_call 25; refine (ref_local _ _ _ _ _ _ _ _ _ _).mono ?_; rintro e w1 ⟨rfl, rfl⟩; rw [eL])
  all_goals
    go_ret
    exact ⟨ret_bool (by simp_all [holdsB, outB, workB]), by repeat (first | exact below_alloc _ _ | exact below_same _ | assumption | refine below_more ?_)⟩
set_option maxHeartbeats 20000000 in
theorem ref_holds_2_ft (t : Int) (fr to_ pa pl : Int) (bu ov : Bool) (w : World) : Calls Try.prog 12 #[.int .i64 t, .agg #[.bool false, .int .i64 2, .bool true, .int .i64 fr, .int .i64 to_, .int .i64 pa, .int .i64 pl, .bool bu, .bool ov]] w fun e w1 => e = .returned (.bool (holdsB t false 2 true fr to_ pa pl bu ov)) ∧ Below w.heap.size w w1 := by
  have eL : locB 2 = false := by decide
  go_enter Try.func12, Try.ntmps12
  go_wp2_with (go_at_call 25; refine (ref_local _ _ _ _ _ _ _ _ _ _).mono ?_; rintro e w1 ⟨rfl, rfl⟩; rw [eL])
  all_goals
    go_ret
    exact ⟨ret_bool (by simp_all [holdsB, outB, workB]), by repeat (first | exact below_alloc _ _ | exact below_same _ | assumption | refine below_more ?_)⟩
set_option maxHeartbeats 20000000 in
theorem ref_holds_6_ft (t : Int) (fr to_ pa pl : Int) (bu ov : Bool) (w : World) : Calls Try.prog 12 #[.int .i64 t, .agg #[.bool false, .int .i64 6, .bool true, .int .i64 fr, .int .i64 to_, .int .i64 pa, .int .i64 pl, .bool bu, .bool ov]] w fun e w1 => e = .returned (.bool (holdsB t false 6 true fr to_ pa pl bu ov)) ∧ Below w.heap.size w w1 := by
  have eL : locB 6 = false := by decide
  go_enter Try.func12, Try.ntmps12
  go_wp2_with (go_at_call 25; refine (ref_local _ _ _ _ _ _ _ _ _ _).mono ?_; rintro e w1 ⟨rfl, rfl⟩; rw [eL])
  all_goals
    go_ret
    exact ⟨ret_bool (by simp_all [holdsB, outB, workB]), by repeat (first | exact below_alloc _ _ | exact below_same _ | assumption | refine below_more ?_)⟩
set_option maxHeartbeats 20000000 in
theorem ref_holds_7_ft (t : Int) (fr to_ pa pl : Int) (bu ov : Bool) (w : World) : Calls Try.prog 12 #[.int .i64 t, .agg #[.bool false, .int .i64 7, .bool true, .int .i64 fr, .int .i64 to_, .int .i64 pa, .int .i64 pl, .bool bu, .bool ov]] w fun e w1 => e = .returned (.bool (holdsB t false 7 true fr to_ pa pl bu ov)) ∧ Below w.heap.size w w1 := by
  have eL : locB 7 = false := by decide
  go_enter Try.func12, Try.ntmps12
  go_wp2_with (go_at_call 25; refine (ref_local _ _ _ _ _ _ _ _ _ _).mono ?_; rintro e w1 ⟨rfl, rfl⟩; rw [eL])
  all_goals
    go_ret
    exact ⟨ret_bool (by simp_all [holdsB, outB, workB]), by repeat (first | exact below_alloc _ _ | exact below_same _ | assumption | refine below_more ?_)⟩
set_option maxHeartbeats 20000000 in
theorem ref_holds_L_ft (t : Int) (su : Int) (fr to_ pa pl : Int) (bu ov : Bool) (w : World) (e1 : (su == 1) = false) (e2 : (su == 2) = false) (e6 : (su == 6) = false) (e7 : (su == 7) = false) (eL : locB su = true) : Calls Try.prog 12 #[.int .i64 t, .agg #[.bool false, .int .i64 su, .bool true, .int .i64 fr, .int .i64 to_, .int .i64 pa, .int .i64 pl, .bool bu, .bool ov]] w fun e w1 => e = .returned (.bool (holdsB t false su true fr to_ pa pl bu ov)) ∧ Below w.heap.size w w1 := by
  go_enter Try.func12, Try.ntmps12
  go_wp2_with (go_at_call 25; refine (ref_local _ _ _ _ _ _ _ _ _ _).mono ?_; rintro e w1 ⟨rfl, rfl⟩; rw [eL])
  all_goals
    go_ret
    exact ⟨ret_bool (by simp_all [holdsB, outB, workB]), by repeat (first | exact below_alloc _ _ | exact below_same _ | assumption | refine below_more ?_)⟩
end Go.Proofs.Ytahjeiiandpmlaa
