/- What the statements' rounds keep. -/
import Derived.Test.YtdacpiegfobhbaaPdL
namespace Go.Proofs.Ytdacpiegfobhbaa
open Go.RowKit
set_option maxRecDepth 100000
set_option linter.unusedSimpArgs false
set_option linter.unusedVariables false

theorem Ck.cl_ok {c : Ck} (ok : c.Ok) (k y i : Int) : (c.cl k y i).Ok ∧ (c.cl k y i).k = c.k ∧ (c.cl k y i).F = c.F ∧ (c.cl k y i).B = c.B := by
  unfold Ck.cl
  by_cases h : c.clE k y i = 0
  · rw [if_pos h]
    refine ⟨?_, rfl, rfl, rfl⟩
    unfold Ck.clE at h
    by_cases h1 : c.Has k y i
    · obtain ⟨hg, rfl, hF⟩ := h1
      have hp := Civ.per_place hg
      rw [if_pos ⟨hg, rfl, hF⟩] at h
      by_cases h2 : Civ.place c.k y i < c.A
      · rw [if_pos h2] at h; omega
      · rw [if_neg h2] at h
        by_cases h3 : Civ.place c.k y i = c.A
        · exact ⟨ok.kind, ok.f0, ok.fb, show c.B ≤ c.A + 1 by have := ok.ba; omega, ok.fa, show c.A + 1 ≤ 8030 * Civ.many c.k by omega⟩
        · rw [if_neg h3] at h; omega
    · rw [if_neg h1] at h; omega
  · rw [if_neg h]; exact ⟨ok, rfl, rfl, rfl⟩
theorem Ck.fi_ok {c : Ck} (ok : c.Ok) (k y i : Int) : (c.fi k y i).Ok ∧ (c.fi k y i).k = c.k ∧ (c.fi k y i).F = c.F ∧ (c.fi k y i).B ≤ c.B + 1 := by
  unfold Ck.fi
  by_cases h : c.fiE k y i = 0
  · rw [if_pos h]
    refine ⟨?_, rfl, rfl, Int.le_refl _⟩
    unfold Ck.fiE at h
    by_cases h1 : c.Has k y i
    · rw [if_pos h1] at h
      by_cases h2 : Civ.place k y i = c.B ∧ Civ.place k y i < c.A
      · exact ⟨ok.kind, ok.f0, show c.F ≤ c.B + 1 by have := ok.fb; omega, show c.B + 1 ≤ c.A by omega, ok.fa, ok.aa⟩
      · rw [if_neg h2] at h; omega
    · rw [if_neg h1] at h; omega
  · rw [if_neg h]; exact ⟨ok, rfl, rfl, by omega⟩
theorem StepP.on {w : World} {P g : Nat} {c : Ck} {er : Int} {e : Ending} {w' : World} {o : Obj} (h : StepP w P c er e w') (hx : w.heap[g]? = some o) (hg : g ≠ P) : w'.heap[g]? = some o := (h.2.2.block g (heapLt hx) hg).trans hx
theorem row_put1 {w : World} {g : Nat} {t : TypeId} {x a b c : Value} (a' b' c' : Value) (h : w.heap[g]? = some (.cells #[x, a, b, c] t (0, 0))) : (((w.setCell ⟨g, 1, none⟩ a').setCell ⟨g, 2, none⟩ b').setCell ⟨g, 3, none⟩ c').heap[g]? = some (.cells #[x, a', b', c'] t (0, 0)) :=
  heap_setCells3 w g 1 _ t a' b' c' h
theorem chg_put1 (w : World) (g : Nat) (a b c : Value) : ChgP w (((w.setCell ⟨g, 1, none⟩ a).setCell ⟨g, 2, none⟩ b).setCell ⟨g, 3, none⟩ c) g := chg_setCells3 w g 1 a b c
theorem cells4_row {w : World} {g : Nat} {x a b c : Value} {t : TypeId} (q : w.heap[g]? = some (.cells #[x, a, b, c] t (0, 0))) : w.cell? ⟨g, 0, none⟩ = some x ∧ w.cell? ⟨g, 1, none⟩ = some a ∧ w.cell? ⟨g, 2, none⟩ = some b ∧ w.cell? ⟨g, 3, none⟩ = some c := ⟨cell_of_row _ _ 0 _ _ _ q, cell_of_row _ _ 1 _ _ _ q, cell_of_row _ _ 2 _ _ _ q, cell_of_row _ _ 3 _ _ _ q⟩
theorem frozen4_row {w : World} {g : Nat} {x a b c : Value} {t : TypeId} (q : w.heap[g]? = some (.cells #[x, a, b, c] t (0, 0))) : w.frozen? ⟨g, 1, none⟩ = false ∧ w.frozen? ⟨g, 2, none⟩ = false ∧ w.frozen? ⟨g, 3, none⟩ = false := ⟨frozen_of_row _ _ 1 _ _ q, frozen_of_row _ _ 2 _ _ q, frozen_of_row _ _ 3 _ _ q⟩
def roundsLeft (n : Nat) (i : Value) : Nat := n - (intOf i).toNat
theorem roundsLeft_next (n k : Nat) (h : k < n) : roundsLeft n (.int .i64 ((k : Int) + 1)) < roundsLeft n (.int .i64 (k : Int)) := by
  unfold roundsLeft
  simp only [intOf]
  omega
end Go.Proofs.Ytdacpiegfobhbaa
