/- Periods of one kind in their order: held against each other by their places. -/
import Derived.Test.YtdacpiegfobhbaaCivLaw4
namespace Go.Proofs.Ytdacpiegfobhbaa.Civ

theorem last_lt_first {k y i y' i' : Int} (h : good k y i = true) (h' : good k y' i' = true) (hp : place k y i < place k y' i') : last k y i < first k y' i' := by
  obtain ⟨h1, h2, h3, h4⟩ := good_iff.1 h
  obtain ⟨g1, g2, g3, g4⟩ := good_iff.1 h'
  rw [last_eq h, first_eq]
  have hy : y ≤ y' := by
    unfold place at hp
    rcases many_each' h with ⟨_, e1, e2⟩ | ⟨_, e1, e2⟩ | ⟨_, e1, e2⟩ <;> rw [e1] at hp h4 g4 <;> omega
  have he : 0 ≤ i * each k ∧ i * each k ≤ 12 ∧ 0 ≤ (i' - 1) * each k := by
    rcases many_each' h with ⟨_, e1, e2⟩ | ⟨_, e1, e2⟩ | ⟨_, e1, e2⟩ <;> rw [e1] at h4 g4 <;> rw [e2] <;> omega
  by_cases hyy : y = y'
  · subst hyy
    have hi : (i * each k).toNat ≤ ((i' - 1) * each k).toNat := by
      unfold place at hp
      rcases many_each' h with ⟨_, e1, e2⟩ | ⟨_, e1, e2⟩ | ⟨_, e1, e2⟩ <;> rw [e1] at hp h4 g4 <;> rw [e2] <;> omega
    have := months_up y _ _ hi
    omega
  · have m1 := months_up y (i * each k).toNat 12 (by omega)
    rw [months_12 h1 h2] at m1
    have e : years ((y - 1970).toNat + 1) = years (y - 1970).toNat + days (1970 + ((y - 1970).toNat : Int)) := rfl
    rw [show 1970 + ((y - 1970).toNat : Int) = y by omega] at e
    have u := years_up ((y - 1970).toNat + 1) (y' - 1970).toNat (by omega)
    have m2 := (months_bd y' ((i' - 1) * each k).toNat).1
    omega
theorem place_inj {k y i y' i' : Int} (h : good k y i = true) (h' : good k y' i' = true) (hp : place k y i = place k y' i') : y = y' ∧ i = i' := by
  obtain ⟨h1, h2, h3, h4⟩ := good_iff.1 h
  obtain ⟨g1, g2, g3, g4⟩ := good_iff.1 h'
  unfold place at hp
  rcases many_each' h with ⟨_, e1, e2⟩ | ⟨_, e1, e2⟩ | ⟨_, e1, e2⟩ <;> rw [e1] at hp h4 g4 <;> omega
theorem cmp_lt {k y i y' i' : Int} (h : good k y i = true) (h' : good k y' i' = true) (hp : place k y i < place k y' i') : cmp k y i k y' i' = -1 := by
  have a := last_lt_first h h' hp
  have b := first_le_last h
  unfold cmp
  rw [if_pos ⟨h, h'⟩, if_neg (by omega), if_pos (by omega)]
theorem cmp_gt {k y i y' i' : Int} (h : good k y i = true) (h' : good k y' i' = true) (hp : place k y' i' < place k y i) : cmp k y i k y' i' = 1 := by
  rw [cmp_anti, cmp_lt h' h hp]; rfl
theorem cmp_neg_iff {k y i y' i' : Int} (h : good k y i = true) (h' : good k y' i' = true) : cmp k y i k y' i' < 0 ↔ place k y i < place k y' i' := by
  constructor
  · intro hc
    refine Classical.byContradiction fun hn => ?_
    by_cases he : place k y i = place k y' i'
    · obtain ⟨rfl, rfl⟩ := place_inj h h' he
      rw [cmp_self] at hc; omega
    · rw [cmp_gt h h' (by omega)] at hc; omega
  · intro hp; rw [cmp_lt h h' hp]; omega
/-- the period of a kind at a place: nothing behind the last one -/
def perY (k n : Int) : Int := if n < 8030 * many k then 1970 + n / many k else 0
def perI (k n : Int) : Int := if n < 8030 * many k then n % many k + 1 else 0
def perK (k n : Int) : Int := if n < 8030 * many k then k else 0
/-- a kind that a clock may have -/
def isKind (k : Int) : Prop := k = 1 ∨ k = 2
theorem isKind.many {k : Int} (h : isKind k) : many k = 12 ∨ many k = 4 := by rcases h with rfl | rfl <;> simp [Civ.many]
theorem per_good {k n : Int} (hk : isKind k) (h0 : 0 ≤ n) (h : n < 8030 * many k) : good k (perY k n) (perI k n) = true ∧ place k (perY k n) (perI k n) = n ∧ perK k n = k := by
  unfold perY perI perK
  rw [if_pos h, if_pos h, if_pos h, good_iff]
  unfold place
  rcases hk with rfl | rfl <;> simp only [many] at h ⊢ <;> simp at h ⊢ <;> omega
theorem per_none {k n : Int} (h : ¬ n < 8030 * many k) : perK k n = 0 ∧ perY k n = 0 ∧ perI k n = 0 := by
  unfold perY perI perK
  rw [if_neg h, if_neg h, if_neg h]; exact ⟨rfl, rfl, rfl⟩
theorem per_place {k y i : Int} (h : good k y i = true) : perK k (place k y i) = k ∧ perY k (place k y i) = y ∧ perI k (place k y i) = i ∧ 0 ≤ place k y i ∧ place k y i < 8030 * many k := by
  obtain ⟨h1, h2, h3, h4⟩ := good_iff.1 h
  have hp : place k y i < 8030 * many k ∧ 0 ≤ place k y i := by
    unfold place
    rcases many_each' h with ⟨_, e1, e2⟩ | ⟨_, e1, e2⟩ | ⟨_, e1, e2⟩ <;> rw [e1] at h4 ⊢ <;> omega
  unfold perY perI perK
  rw [if_pos hp.1, if_pos hp.1, if_pos hp.1]
  refine ⟨rfl, ?_, ?_, hp.2, hp.1⟩
  all_goals
    unfold place
    rcases many_each' h with ⟨_, e1, e2⟩ | ⟨_, e1, e2⟩ | ⟨_, e1, e2⟩ <;> rw [e1] at h4 ⊢ <;> omega
/-- where all of a kind's periods end -/
def allOf (k : Int) : Int := 8030 * many k
end Go.Proofs.Ytdacpiegfobhbaa.Civ
