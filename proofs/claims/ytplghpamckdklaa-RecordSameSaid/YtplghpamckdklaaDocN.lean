/- Days and stretches of days: the record's. -/
import Derived.Test.YtplghpamckdklaaDocD
namespace Go.Proofs.Ytplghpamckdklaa
open Go.RowKit
set_option maxRecDepth 100000

theorem code_isDay (n : Int) (w : World) : Calls Try.prog 63 #[.int .i64 n] w fun e w' => e = .returned (.bool (inB n 0 2932896)) ∧ w = w' := by
  go_enter Try.func63, Try.ntmps63
  go_wp2_with (go_at_call 43; refine (code_isFrom _ _ _ _).mono ?_; rintro e w2 ⟨rfl, rfl⟩)
  go_ret
  exact ⟨rfl, rfl⟩
/-- days of a stretch -/
def stretchB (d u : Int) : Bool := inB d 0 2932896 && (inB u 0 2932896 && decide (d ≤ u))
theorem code_isStretch (d u : Int) (w : World) : Calls Try.prog 64 #[.int .i64 d, .int .i64 u] w fun e w' => e = .returned (.bool (stretchB d u)) ∧ w = w' := by
  unfold stretchB
  cases h1 : inB d 0 2932896 <;> cases h2 : inB u 0 2932896
  all_goals
    go_enter Try.func64, Try.ntmps64
    go_wp2_with (go_at_call 63; refine (code_isDay _ _).mono ?_; rintro e w2 ⟨rfl, rfl⟩)
    go_ret
    exact ⟨by simp, rfl⟩
end Go.Proofs.Ytplghpamckdklaa
