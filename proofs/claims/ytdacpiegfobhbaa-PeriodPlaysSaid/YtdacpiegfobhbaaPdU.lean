/- Whatever is closed and filed: of every input. -/
import Derived.Test.YtdacpiegfobhbaaPdT
namespace Go.Proofs.Ytdacpiegfobhbaa
open Go.RowKit
set_option maxRecDepth 100000
set_option linter.unusedSimpArgs false
set_option linter.unusedVariables false

theorem new_no (k n : Int) (w : World) (h : ¬ (Civ.isKind k ∧ 0 ≤ n ∧ n ≤ 2932896)) :
    Calls Try.prog 8 #[.int .i64 k, .int .i64 n] w fun e w' => e = .returned (.pointer none) ∧ Below w.heap.size w w' := by
  by_cases hk : Civ.isKind k
  · exact new_day k n w hk (by
      have : ¬ (0 ≤ n ∧ n ≤ 2932896) := fun x => h ⟨hk, x⟩
      omega)
  · exact new_kind k n w hk
theorem periodPlays_any (w : World) (k n when_ : Int) (A : Option Addr) (L : List StepV) (cp : Nat) (hr : RowStepV w A L) (x : StepV) (hlb : L.length ≤ 4000000000000000000) :
    Calls Try.prog 3 #[.int .i64 k, .int .i64 n, .slice A L.length cp, .agg #[.int .i64 x.1, .int .i64 x.2.1, .int .i64 x.2.2.1, .int .i64 x.2.2.2], .int .i64 when_] w fun e w' => e = .returned (.bool true) ∧ Below w.heap.size w w' := by
  obtain ⟨a0, ak, ay, ai⟩ := x
  have HBA := Lib.hid (below_alloc w (.cells #[.int .i64 a0, .int .i64 ak, .int .i64 ay, .int .i64 ai] 26))
  have HLv := Lib.hid lives27_any
  by_cases hl : L.length ≤ 60
  · by_cases h : Civ.isKind k ∧ 0 ≤ n ∧ n ≤ 2932896
    · exact plays_walk w k n when_ a0 ak ay ai A L cp hr hl h.1 h.2.1 h.2.2
    · have HN := Lib.hid (fun w => new_no k n w h)
      have HNr := Lib.hid (fun w => ref_new_no w k n h)
      have hl' : ¬ (60 : Int) < (L.length : Int) := by omega
      clear h hl hlb hr
      go_enter Try.func3, Try.ntmps3
      go_wp2_with (first
        | (go_at_call 8; refine (HN.out _).mono ?_; rintro e w1 ⟨rfl, hb⟩; have HB1 := Lib.hid (below_then HBA.out hb); clear hb)
        | (go_at_call 9; refine (HNr.out _).mono ?_; rintro e w2 ⟨rfl, hb⟩; have HB2 := Lib.hid (below_any HB1.out (Nat.le_refl _) hb); clear hb)
        | (go_at_call 7; refine (HLv.out _).mono ?_; rintro e w3 ⟨rfl, hb3⟩; have HB3 := Lib.hid (below_any HB2.out (Nat.le_refl _) (below_then (below_alloc _ _) hb3)); clear hb3))
      go_ret
      exact ⟨rfl, HB3.out⟩
  · have hl' : (60 : Int) < (L.length : Int) := by omega
    clear hl hlb hr
    go_enter Try.func3, Try.ntmps3
    go_wp2_with (go_at_call 7; refine (HLv.out _).mono ?_; rintro e w3 ⟨rfl, hb3⟩; have HB3 := Lib.hid (below_then HBA.out hb3); clear hb3)
    go_ret
    exact ⟨rfl, HB3.out⟩
end Go.Proofs.Ytdacpiegfobhbaa
