/- The statement on periods that follow one another. -/
import Derived.Test.YtdacpiegfobhbaaCivMath2
namespace Go.Proofs.Ytdacpiegfobhbaa.Civ

theorem many_each' {k y i : Int} (h : good k y i = true) : k = 1 ∧ many k = 12 ∧ each k = 1 ∨ k = 2 ∧ many k = 4 ∧ each k = 3 ∨ k = 3 ∧ many k = 1 ∧ each k = 12 :=
  many_each (by have := good_iff.1 h; omega)
theorem first_valid {k y i : Int} (h : good k y i = true) : valid y ((i - 1) * each k + 1) 1 ∧ ((i - 1) * each k + 1 - 1) / each k + 1 = i := by
  obtain ⟨h1, h2, h3, h4⟩ := good_iff.1 h
  rcases many_each' h with ⟨_, e1, e2⟩ | ⟨_, e1, e2⟩ | ⟨_, e1, e2⟩
  all_goals
    rw [e1] at h4
    rw [e2]
    refine ⟨⟨?_, by omega, ?_⟩, by omega⟩
    all_goals
      have := len_lo h1 h2 (m := (i - 1) * each k + 1) (by rw [e2]; omega) (by rw [e2]; omega)
      rw [e2] at this
      omega
theorem last_valid {k y i : Int} (h : good k y i = true) : valid y (i * each k) (len y (i * each k)) ∧ (i * each k - 1) / each k + 1 = i := by
  obtain ⟨h1, h2, h3, h4⟩ := good_iff.1 h
  have hl : 28 ≤ len y (i * each k) := by
    rcases many_each' h with ⟨_, e1, e2⟩ | ⟨_, e1, e2⟩ | ⟨_, e1, e2⟩
    all_goals
      rw [e1] at h4
      exact len_lo h1 h2 (by rw [e2]; omega) (by rw [e2]; omega)
  refine ⟨⟨by omega, by omega, by omega⟩, ?_⟩
  rcases many_each' h with ⟨_, e1, e2⟩ | ⟨_, e1, e2⟩ | ⟨_, e1, e2⟩
  all_goals
    rw [e1] at h4
    rw [e2]
    omega
theorem first_le_last {k y i : Int} (h : good k y i = true) : first k y i ≤ last k y i ∧ 0 ≤ first k y i ∧ last k y i ≤ 2932896 := by
  have w := within_of (first_valid h).1 (by rcases many_each' h with ⟨_, e1, _⟩ | ⟨_, e1, _⟩ | ⟨_, e1, _⟩ <;> omega : ¬ many k = 0)
  rw [(first_valid h).2] at w
  have w2 := w.2
  simp only [within, w.1, Bool.true_and, Bool.and_eq_true, decide_eq_true_eq] at w2
  have a := number_bd (first_valid h).1
  have b := number_bd (last_valid h).1
  exact ⟨Int.le_trans w2.1 w2.2, a.1, b.2⟩
/-- a period, and the one behind it -/
theorem next_good {k y i : Int} (h : good k y i = true) (hn : 1 < 8030 * many k - place k y i) :
    good k (1970 + (place k y i + 1) / many k) ((place k y i + 1) % many k + 1) = true ∧
    place k (1970 + (place k y i + 1) / many k) ((place k y i + 1) % many k + 1) = place k y i + 1 ∧
    1970 + place k y i / many k = y ∧ place k y i % many k + 1 = i := by
  obtain ⟨h1, h2, h3, h4⟩ := good_iff.1 h
  rw [good_iff]
  unfold place at *
  rcases many_each' h with ⟨_, e1, e2⟩ | ⟨_, e1, e2⟩ | ⟨_, e1, e2⟩ <;> rw [e1] at hn h4 ⊢ <;> omega
theorem next_first {k y i : Int} (h : good k y i = true) :
    first k (1970 + (place k y i + 1) / many k) ((place k y i + 1) % many k + 1) = last k y i + 1 := by
  obtain ⟨h1, h2, h3, h4⟩ := good_iff.1 h
  rw [last_eq h, first_eq]
  by_cases hi : i = many k
  · have hy : (place k y i + 1) / many k = y - 1970 + 1 ∧ (place k y i + 1) % many k = 0 := by
      unfold place
      rcases many_each' h with ⟨_, e1, e2⟩ | ⟨_, e1, e2⟩ | ⟨_, e1, e2⟩ <;> rw [e1] at hi h4 ⊢ <;> omega
    rw [hy.1, hy.2]
    have e : (i * each k).toNat = 12 := by
      rcases many_each' h with ⟨_, e1, e2⟩ | ⟨_, e1, e2⟩ | ⟨_, e1, e2⟩ <;> rw [e2] <;> rw [e1] at hi <;> omega
    rw [e, months_12 h1 h2, show (1970 + (y - 1970 + 1) - 1970).toNat = (y - 1970).toNat + 1 by omega, show ((0 + 1 - 1) * each k).toNat = 0 by simp]
    have : years ((y - 1970).toNat + 1) = years (y - 1970).toNat + days (1970 + ((y - 1970).toNat : Int)) := rfl
    rw [this, show 1970 + ((y - 1970).toNat : Int) = y by omega]
    simp [months]
  · have hy : (place k y i + 1) / many k = y - 1970 ∧ (place k y i + 1) % many k = i := by
      unfold place
      rcases many_each' h with ⟨_, e1, e2⟩ | ⟨_, e1, e2⟩ | ⟨_, e1, e2⟩ <;> rw [e1] at hi h4 ⊢ <;> omega
    rw [hy.1, hy.2, show 1970 + (y - 1970) = y by omega, show i + 1 - 1 = i by omega]
    omega
theorem next_none {k y i : Int} (h : good k y i = true) (hn : ¬ 1 < 8030 * many k - place k y i) : last k y i = 2932896 := by
  obtain ⟨h1, h2, h3, h4⟩ := good_iff.1 h
  have hy : y = 9999 ∧ i = many k := by
    unfold place at hn
    rcases many_each' h with ⟨_, e1, e2⟩ | ⟨_, e1, e2⟩ | ⟨_, e1, e2⟩ <;> rw [e1] at hn h4 ⊢ <;> omega
  rw [last_eq h, hy.1]
  have e : (i * each k).toNat = 12 := by
    rw [hy.2]
    rcases many_each' h with ⟨_, e1, e2⟩ | ⟨_, e1, e2⟩ | ⟨_, e1, e2⟩ <;> rw [e1, e2] <;> rfl
  rw [e, months_12 (by omega) (by omega)]
  have : years 8030 = years 8029 + days (1970 + ((8029 : Nat) : Int)) := rfl
  rw [years_end] at this
  have e2 : (9999 - 1970 : Int).toNat = 8029 := rfl
  rw [e2]
  have e3 : 1970 + ((8029 : Nat) : Int) = 9999 := rfl
  rw [e3] at this
  omega
end Go.Proofs.Ytdacpiegfobhbaa.Civ
