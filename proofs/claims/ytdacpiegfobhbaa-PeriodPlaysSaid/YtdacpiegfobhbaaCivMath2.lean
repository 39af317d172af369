/- Plain facts on periods: the one that has a day; two held against each other; the next one. -/
import Derived.Test.YtdacpiegfobhbaaCivMath
namespace Go.Proofs.Ytdacpiegfobhbaa.Civ
set_option maxRecDepth 100000

theorem many_each {k : Int} (h : ¬ many k = 0) : k = 1 ∧ many k = 12 ∧ each k = 1 ∨ k = 2 ∧ many k = 4 ∧ each k = 3 ∨ k = 3 ∧ many k = 1 ∧ each k = 12 := by
  unfold many at h
  by_cases a : k = 1
  · subst a; exact .inl ⟨rfl, rfl, rfl⟩
  · by_cases b : k = 2
    · subst b; exact .inr (.inl ⟨rfl, rfl, rfl⟩)
    · by_cases c : k = 3
      · subst c; exact .inr (.inr ⟨rfl, rfl, rfl⟩)
      · rw [if_neg a, if_neg b, if_neg c] at h; omega
theorem good_iff {k y i : Int} : good k y i = true ↔ 1970 ≤ y ∧ y ≤ 9999 ∧ 1 ≤ i ∧ i ≤ many k := by
  simp [good, and_assoc]
/-- the number of a day that is one of its year's, by the month -/
theorem number_first {y m : Int} : number y m 1 = years (y - 1970).toNat + months y (m - 1).toNat := by unfold number; omega
theorem number_last {y m : Int} (h1 : 1 ≤ m) : number y m (len y m) = years (y - 1970).toNat + months y m.toNat - 1 := by
  unfold number
  have e := months_succ y (m - 1).toNat
  rw [show (m - 1).toNat + 1 = m.toNat by omega, show 1 + ((m - 1).toNat : Int) = m by omega] at e
  omega
theorem first_eq {k y i : Int} : first k y i = years (y - 1970).toNat + months y ((i - 1) * each k).toNat := by
  unfold first; rw [number_first, show (i - 1) * each k + 1 - 1 = (i - 1) * each k by omega]
theorem last_eq {k y i : Int} (h : good k y i = true) : last k y i = years (y - 1970).toNat + months y (i * each k).toNat - 1 := by
  obtain ⟨_, _, h3, h4⟩ := good_iff.1 h
  unfold last
  rw [number_last]
  rcases many_each (k := k) (by omega) with ⟨_, _, e⟩ | ⟨_, _, e⟩ | ⟨_, _, e⟩ <;> rw [e] <;> omega
/-- a day's period has it -/
theorem within_of {y m d k : Int} (hv : valid y m d) (hk : ¬ many k = 0) :
    good k y ((m - 1) / each k + 1) = true ∧ within k y ((m - 1) / each k + 1) (number y m d) = true := by
  obtain ⟨h1, h2, h3, h4⟩ := valid_bd hv
  obtain ⟨n1, n2, n3, n4⟩ := number_in hv
  have hg : good k y ((m - 1) / each k + 1) = true := by
    rw [good_iff]
    rcases many_each hk with ⟨_, e1, e2⟩ | ⟨_, e1, e2⟩ | ⟨_, e1, e2⟩ <;> rw [e1, e2] <;> omega
  refine ⟨hg, ?_⟩
  unfold within
  rw [hg, last_eq hg, first_eq]
  simp only [Bool.true_and, Bool.and_eq_true, decide_eq_true_eq]
  have hlo : months y (((m - 1) / each k + 1 - 1) * each k).toNat ≤ months y (m - 1).toNat := by
    refine months_up _ _ _ ?_
    rcases many_each hk with ⟨_, e1, e2⟩ | ⟨_, e1, e2⟩ | ⟨_, e1, e2⟩ <;> rw [e2] <;> omega
  have hhi : months y ((m - 1).toNat + 1) ≤ months y (((m - 1) / each k + 1) * each k).toNat := by
    refine months_up _ _ _ ?_
    rcases many_each hk with ⟨_, e1, e2⟩ | ⟨_, e1, e2⟩ | ⟨_, e1, e2⟩ <;> rw [e2] <;> omega
  omega
theorem cmp_bd (k y i k' y' i' : Int) : -1 ≤ cmp k y i k' y' i' ∧ cmp k y i k' y' i' ≤ 1 := by
  unfold cmp; repeat' split
  all_goals omega
theorem cmp_anti (k y i k' y' i' : Int) : cmp k y i k' y' i' = - cmp k' y' i' k y i := by
  unfold cmp
  by_cases g : good k y i = true ∧ good k' y' i' = true
  · rw [if_pos g, if_pos (show good k' y' i' = true ∧ good k y i = true from ⟨g.2, g.1⟩)]
    repeat' split
    all_goals omega
  · rw [if_neg g, if_neg (show ¬ (good k' y' i' = true ∧ good k y i = true) from fun h => g ⟨h.2, h.1⟩)]
    rfl
theorem cmp_self (k y i : Int) : cmp k y i k y i = 0 := by
  unfold cmp; repeat' split
  all_goals omega
end Go.Proofs.Ytdacpiegfobhbaa.Civ
