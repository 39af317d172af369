/- Whether a treatment holds: the document's own. -/
import Derived.Test.YtahjeiiandpmlaaTtA
namespace Go.Proofs.Ytahjeiiandpmlaa
open Go.RowKit
set_option maxRecDepth 100000
set_option linter.unusedSimpArgs false
set_option linter.unusedVariables false

def locB (su : Int) : Bool := decide (3 ≤ su) && decide (su ≤ 5)
def outB (su fr to_ pa : Int) (bu : Bool) : Bool := (su == 1) && (fr == 0) && (to_ == 1) && !bu || (su == 6) && (pa == 1) && !bu
def workB (su : Int) : Bool := (su == 2) || (su == 6)
def holdsB (t : Int) (sa : Bool) (su : Int) (ex : Bool) (fr to_ pa pl : Int) (bu ov : Bool) : Bool :=
  if t = 1 then (sa && !ex) && ((su == 1) && (fr == 0) && (to_ == 0) || workB su && (pa == 0) || (su == 2) && (pa == 1) && !bu || locB su && (pl == 0))
  else if t = 2 then ex
  else if t = 3 then (sa && !ex) && (su == 7) && (fr == 0) && (to_ != 2) || (!sa && !ex) && (su == 7) && (to_ == 0) && (fr != 2)
  else if t = 4 then (sa && !ex) && (su == 1) && (fr == 0) && (to_ == 1) && bu
  else if t = 5 then (sa && !ex) && ((su == 1) || (su == 7)) && (fr == 0) && (to_ == 2)
  else if t = 6 then (sa && !ex) && workB su && (pa == 1) && bu
  else if t = 7 then (sa && !ex) && workB su && (pa == 2)
  else if t = 8 then (sa && !ex) && outB su fr to_ pa bu && ov
  else if t = 9 then (sa && !ex) && outB su fr to_ pa bu && !ov
  else if t = 10 then (sa && !ex) && (((su == 1) || (su == 7)) && (fr != 0) || locB su && (pl != 0)) || (!sa && !ex) && (((su == 1) || (su == 7)) && (to_ != 0) || (su == 1) && (to_ == 0) && (fr == 1) && !bu || workB su && (pa != 0) && !bu || locB su && ((pl != 0) || (pa != 0) && !bu))
  else if t = 11 then (!sa && !ex) && ((su == 1) && (to_ == 0) && (fr == 0) || workB su && (pa == 0) || locB su && (pl == 0) && (pa == 0))
  else if t = 12 then (!sa && !ex) && (su == 1) && (to_ == 0) && (fr == 1) && bu
  else if t = 13 then (!sa && !ex) && bu && (pa != 0) && (workB su || locB su && (pl == 0))
  else if t = 14 then (!sa && !ex) && ((su == 1) || (su == 7)) && (to_ == 0) && (fr == 2)
  else false
set_option maxHeartbeats 1000000 in
theorem ref_local (sa : Bool) (su : Int) (ex : Bool) (fr to_ pa pl : Int) (bu ov : Bool) (w : World) : Calls Try.prog 25 #[.agg #[.bool sa, .int .i64 su, .bool ex, .int .i64 fr, .int .i64 to_, .int .i64 pa, .int .i64 pl, .bool bu, .bool ov]] w fun e w1 => e = .returned (.bool (locB su)) ∧ w1 = w.alloc (.cells #[.bool sa, .int .i64 su, .bool ex, .int .i64 fr, .int .i64 to_, .int .i64 pa, .int .i64 pl, .bool bu, .bool ov] 23) := by
  unfold locB
  go_enter Try.func25, Try.ntmps25
  go_wp2
  all_goals
    go_ret
    exact ⟨ret_bool (by first | (simp_all; done) | (simp_all; omega)), rfl⟩
set_option maxHeartbeats 1000000 in
theorem ref_zone (z : Int) (w : World) : Calls Try.prog 24 #[.int .i64 z] w fun e w1 => e = .returned (.bool (zoneB z)) ∧ w = w1 := by
  unfold zoneB
  go_enter Try.func24, Try.ntmps24
  go_wp2
  all_goals
    go_ret
    exact ⟨ret_bool (by first | (simp_all; done) | (simp_all; omega)), rfl⟩
end Go.Proofs.Ytahjeiiandpmlaa
