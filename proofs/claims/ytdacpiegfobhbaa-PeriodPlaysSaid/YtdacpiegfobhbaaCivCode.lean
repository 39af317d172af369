/- The program's own functions for days and periods, all of them. -/
import Derived.Test.YtdacpiegfobhbaaCivCodeH
namespace Go.Proofs.Ytdacpiegfobhbaa
open Go.RowKit
set_option maxRecDepth 100000

theorem ref_cmp (k y i k' y' i' : Int) (w : World) :
    Calls Try.prog 27 #[.agg #[.int .i64 k, .int .i64 y, .int .i64 i], .agg #[.int .i64 k', .int .i64 y', .int .i64 i']] w fun e w' => e = .returned (.int .i64 (Civ.cmp k y i k' y' i')) ∧ Below w.heap.size w w' := by
  by_cases h : Civ.good k y i = true ∧ Civ.good k' y' i' = true
  · exact ref_cmp_ok _ _ _ _ _ _ w h.1 h.2
  · exact ref_cmp_no _ _ _ _ _ _ w h
end Go.Proofs.Ytdacpiegfobhbaa
