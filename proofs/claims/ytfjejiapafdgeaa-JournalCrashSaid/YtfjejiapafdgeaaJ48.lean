/- JournalCrash, whatever comes in. -/
import Derived.Test.YtfjejiapafdgeaaJ47
namespace Go.Proofs.Ytfjejiapafdgeaa
open Go.RowKit
set_option maxRecDepth 100000
theorem journalCrash_any (many : Int) (L : List Text) (A : Option Addr) (cap : Nat) (fc : CutV) (Lc : List CutV) (Ac : Option Addr) (cc : Nat) (w : World) (hL : L.length ≤ 9223372036854775807) (hR : BatsAt w A L) (hfc : IntB fc.1 ∧ IntB fc.2) (hC : RowCutV w Ac Lc) (hbc : ∀ x ∈ Lc, IntB x.1 ∧ IntB x.2) :
    Calls Try.prog 8 #[.int .i64 many, .slice A L.length cap, .agg #[.int .i64 fc.1, .int .i64 fc.2], .slice Ac Lc.length cc] w fun e w' => e = .returned (.bool true) ∧ Below w.heap.size w w' := by
  by_cases h : many < 1 ∨ 60 < many ∨ jlight L = false ∨ 10 < Lc.length
  · exact jcrash_out many L A cap fc Lc.length Ac cc w hL hR h
  · simp only [not_or, Bool.not_eq_false] at h
    obtain ⟨h1, h2, h3, h4⟩ := h
    obtain ⟨m, rfl⟩ : ∃ m : Nat, many = m := ⟨many.toNat, by omega⟩
    exact jcrash_in m L A cap fc Lc Ac cc w hL hR hfc hC hbc (by omega) (by omega) h3 (by omega)
end Go.Proofs.Ytfjejiapafdgeaa
