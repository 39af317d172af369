/- Days and stretches of days: the record's. -/
import Derived.Test.YtjanhgekocpobaaDocD
namespace Go.Proofs.Ytjanhgekocpobaa
open Go.RowKit
set_option maxRecDepth 100000

theorem code_isDay (n : Int) (w : World) : Calls Try.prog 35 #[.int .i64 n] w fun e w' => e = .returned (.bool (inB n 0 2932896)) ∧ w = w' := by
  go_enter Try.func35, Try.ntmps35
  go_wp2_with (go_at_call 34; refine (code_isFrom _ _ _ _).mono ?_; rintro e w2 ⟨rfl, rfl⟩)
  go_ret
  exact ⟨rfl, rfl⟩
/-- days of a stretch -/
def stretchB (d u : Int) : Bool := inB d 0 2932896 && (inB u 0 2932896 && decide (d ≤ u))
end Go.Proofs.Ytjanhgekocpobaa
