/- The document's clock: where a day's things count. -/
import Derived.Test.YtdacpiegfobhbaaPdQa
import Derived.Test.YtdacpiegfobhbaaPdQb
import Derived.Test.YtdacpiegfobhbaaPdQc
import Derived.Test.YtdacpiegfobhbaaPdQd
import Derived.Test.YtdacpiegfobhbaaPdQe
namespace Go.Proofs.Ytdacpiegfobhbaa
open Go.RowKit
set_option maxRecDepth 100000
set_option linter.unusedSimpArgs false
set_option linter.unusedVariables false

theorem ref_route_out (w : World) (c : Ck) (n : Int) (hn : n < 0 ∨ 2932896 < n) :
    Calls Try.prog 18 #[.agg (cRow c), .int .i64 n] w fun e w' => e = .returned (.tuple #[zeroP, zeroP, .int .i64 30]) ∧ Below w.heap.size w w' :=
  refrt_out w _ _ _ _ _ n 0 0 0 (fun W => ref_of_no n c.k W hn)
theorem ref_route_in (w : World) (c : Ck) (n pl : Int) (ok : c.Ok) (h0 : 0 ≤ pl) (h1 : pl < 8030 * Civ.many c.k)
    (ho : ∀ w, Calls Try.prog 29 #[.int .i64 n, .int .i64 c.k] w fun e w' => e = .returned (.tuple #[.agg #[.int .i64 c.k, .int .i64 (Civ.perY c.k pl), .int .i64 (Civ.perI c.k pl)], .int .i64 0]) ∧ Below w.heap.size w w') :
    Calls Try.prog 18 #[.agg (cRow c), .int .i64 n] w fun e w' => e = .returned (.tuple #[c.rtP pl, c.rtO pl, .int .i64 (c.rtE pl)]) ∧ Below w.heap.size w w' := by
  obtain ⟨g1, g2, g3⟩ := Civ.per_good ok.kind h0 h1
  have hs := per_st c ok pl h0 h1
  have ho' : ∀ w, Calls Try.prog 29 #[.int .i64 n, .int .i64 c.k] w fun e w' => e = .returned (.tuple #[.agg #[.int .i64 (Civ.perK c.k pl), .int .i64 (Civ.perY c.k pl), .int .i64 (Civ.perI c.k pl)], .int .i64 0]) ∧ Below w.heap.size w w' := by rw [g3]; exact ho
  have HS := fun W => ref_state W c ok (Civ.perK c.k pl) (Civ.perY c.k pl) (Civ.perI c.k pl)
  have HF := fun W => ref_first27 W c ok
  have hba := ok.ba
  have hfb := ok.fb
  have hf0 := ok.f0
  by_cases q1 : pl < c.F
  · have e : c.rtE pl = 30 := if_pos q1
    unfold Ck.rtP Ck.rtO
    rw [e, if_neg (by decide), if_neg (by decide)]
    rw [if_neg (by omega)] at hs
    rw [hs] at HS
    exact refrt_ahead w _ _ _ _ _ n _ _ _ 0 rfl ho' HS
  · rw [if_pos (show c.F ≤ pl by omega)] at hs
    by_cases q2 : c.A ≤ pl
    · have e : c.rtE pl = 0 := by unfold Ck.rtE; rw [if_neg q1, if_pos q2]
      unfold Ck.rtP Ck.rtO
      rw [e, if_pos rfl, if_pos rfl, if_pos q2]
      rw [if_neg (by omega), if_neg (by omega)] at hs
      rw [hs] at HS
      have k0 : ¬ Civ.perK c.k c.A = 0 := by rw [(Civ.per_good ok.kind (n := c.A) (by omega) (by omega)).2.2]; exact ok.k0
      exact refrt_same w _ _ _ _ _ n _ _ _ 1 _ _ _ rfl k0 ho' HS HF
    · have hs0 : ¬ c.st (Civ.perK c.k pl) (Civ.perY c.k pl) (Civ.perI c.k pl) = 0 := by
        rw [hs]
        by_cases q : pl < c.B
        · rw [if_pos q]; decide
        · rw [if_neg q, if_pos (by omega)]; decide
      have hs1 : ¬ c.st (Civ.perK c.k pl) (Civ.perY c.k pl) (Civ.perI c.k pl) = 1 := by
        rw [hs]
        by_cases q : pl < c.B
        · rw [if_pos q]; decide
        · rw [if_neg q, if_pos (by omega)]; decide
      by_cases q3 : c.A < 8030 * Civ.many c.k
      · have e : c.rtE pl = 0 := by unfold Ck.rtE; rw [if_neg q1, if_neg q2, if_pos q3]
        unfold Ck.rtP Ck.rtO
        rw [e, if_pos rfl, if_pos rfl, if_neg q2]
        have k0 : ¬ Civ.perK c.k c.A = 0 := by rw [(Civ.per_good ok.kind (n := c.A) (by omega) q3).2.2]; exact ok.k0
        exact refrt_first w _ _ _ _ _ n _ _ _ _ _ _ _ hs0 hs1 k0 ho' HS HF
      · have e : c.rtE pl = 70 := by unfold Ck.rtE; rw [if_neg q1, if_neg q2, if_neg q3]
        unfold Ck.rtP Ck.rtO
        rw [e, if_neg (by decide), if_neg (by decide)]
        obtain ⟨z1, z2, z3⟩ := Civ.per_none q3
        rw [z1, z2, z3] at HF
        exact refrt_none w _ _ _ _ _ n _ _ _ _ hs0 ho' HS HF
end Go.Proofs.Ytdacpiegfobhbaa
