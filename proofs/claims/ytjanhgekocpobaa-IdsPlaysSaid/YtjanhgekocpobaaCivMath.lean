/- Plain numbers of the calendar: what the document's own answers for days say. Nothing of the program is imported. -/
namespace Go.Proofs.Ytjanhgekocpobaa.Civ
set_option maxRecDepth 100000

def leap (y : Int) : Bool := decide (1970 ≤ y) && decide (y ≤ 9999) && decide (y % 4 = 0) && (!decide (y % 100 = 0) || decide (y % 400 = 0))

def len (y m : Int) : Int :=
  if y < 1970 ∨ 9999 < y ∨ m < 1 ∨ 12 < m then 0
  else if m = 2 then (if leap y then 29 else 28)
  else if m = 4 ∨ m = 6 ∨ m = 9 ∨ m = 11 then 30 else 31

def days (y : Int) : Int := if leap y then 366 else 365

/-- the days of so many years from the first one on -/
def years : Nat → Int
  | 0 => 0
  | k + 1 => years k + days (1970 + k)

/-- the days of so many months of a year -/
def months (y : Int) : Nat → Int
  | 0 => 0
  | k + 1 => months y k + len y (k + 1)


/-- a day's number -/
def number (y m d : Int) : Int := years (y - 1970).toNat + months y (m - 1).toNat + d - 1

theorem days_bd (y : Int) : 365 ≤ days y ∧ days y ≤ 366 := by unfold days; split <;> omega
theorem len_bd (y m : Int) : 0 ≤ len y m ∧ len y m ≤ 31 := by unfold len; repeat' split <;> omega
theorem len_lo {y m : Int} (h1 : 1970 ≤ y) (h2 : y ≤ 9999) (h3 : 1 ≤ m) (h4 : m ≤ 12) : 28 ≤ len y m := by
  unfold len; rw [if_neg (by omega)]; repeat' split <;> omega
theorem years_bd' (k : Nat) : 365 * (k : Int) ≤ years k ∧ years k ≤ 366 * (k : Int) := by
  induction k with
  | zero => simp [years]
  | succ k ih => have := days_bd (1970 + k); simp only [years]; omega
theorem years_bd (k : Nat) (h : (k : Int) ≤ 8030) : 0 ≤ years k ∧ years k ≤ 2938980 := by have := years_bd' k; omega
theorem months_bd (y : Int) (k : Nat) : 0 ≤ months y k ∧ months y k ≤ 31 * (k : Int) := by
  induction k with
  | zero => simp [months]
  | succ k ih => have := len_bd y (k + 1); simp only [months]; omega

theorem years_eq (k : Nat) (h : k ≤ 8030) : years k = 365 * (k : Int) + ((1969 + (k : Int)) / 4 - 492) - ((1969 + (k : Int)) / 100 - 19) + ((1969 + (k : Int)) / 400 - 4) := by
  induction k with
  | zero => simp [years]
  | succ k ih =>
    have ih' := ih (by omega)
    simp only [years, ih', days]
    by_cases hl : leap (1970 + (k : Int)) = true
    · have hl' := hl
      simp only [leap, Bool.and_eq_true, Bool.or_eq_true, Bool.not_eq_true', decide_eq_true_eq, decide_eq_false_iff_not] at hl'
      rw [if_pos hl]; omega
    · have hl' := hl
      simp only [leap, Bool.and_eq_true, Bool.or_eq_true, Bool.not_eq_true', decide_eq_true_eq, decide_eq_false_iff_not] at hl'
      rw [if_neg hl]; omega
theorem years_end : years 8030 = 2932897 := by rw [years_eq 8030 (by omega)]; decide
theorem years_up (a b : Nat) (h : a ≤ b) : years a + 365 * ((b : Int) - a) ≤ years b := by
  induction b with
  | zero => have : a = 0 := by omega
            subst this; simp
  | succ b ih =>
    by_cases e : a = b + 1
    · subst e; simp
    · have := ih (by omega); have := days_bd (1970 + b); simp only [years]; omega
theorem months_12 {y : Int} (h1 : 1970 ≤ y) (h2 : y ≤ 9999) : months y 12 = days y := by
  have e : ∀ m : Int, 1 ≤ m → m ≤ 12 → len y m = if m = 2 then (if leap y then 29 else 28) else if m = 4 ∨ m = 6 ∨ m = 9 ∨ m = 11 then 30 else 31 := by
    intro m a b; unfold len; rw [if_neg (by omega)]
  simp only [months]
  simp [e, days]
  split <;> rfl
theorem months_up (y : Int) (a b : Nat) (h : a ≤ b) : months y a ≤ months y b := by
  induction b with
  | zero => have : a = 0 := by omega
            subst this; simp
  | succ b ih =>
    by_cases e : a = b + 1
    · subst e; simp
    · have := ih (by omega); have := len_bd y (b + 1); simp only [months]; omega
theorem months_succ (y : Int) (j : Nat) : months y (j + 1) = months y j + len y (1 + j) := by
  have : months y (j + 1) = months y j + len y (j + 1) := rfl
  rw [this, Int.add_comm (j : Int) 1]

/-- a day that is one -/
def valid (y m d : Int) : Prop := 1 ≤ len y m ∧ 1 ≤ d ∧ d ≤ len y m
theorem valid_bd {y m d : Int} (h : valid y m d) : 1970 ≤ y ∧ y ≤ 9999 ∧ 1 ≤ m ∧ m ≤ 12 := by
  obtain ⟨h, _, _⟩ := h
  unfold len at h
  by_cases h0 : y < 1970 ∨ 9999 < y ∨ m < 1 ∨ 12 < m
  · rw [if_pos h0] at h; omega
  · omega
/-- where a day stands: its year's days, and its month's -/
theorem number_in {y m d : Int} (h : valid y m d) :
    years (y - 1970).toNat ≤ number y m d ∧ number y m d < years ((y - 1970).toNat + 1) ∧
    months y (m - 1).toNat ≤ number y m d - years (y - 1970).toNat ∧ number y m d - years (y - 1970).toNat < months y ((m - 1).toNat + 1) := by
  obtain ⟨h1, h2, h3, h4⟩ := valid_bd h
  obtain ⟨_, h5, h6⟩ := h
  have e1 : years ((y - 1970).toNat + 1) = years (y - 1970).toNat + days y := by
    show _ + days (1970 + ((y - 1970).toNat : Int)) = _
    rw [show 1970 + ((y - 1970).toNat : Int) = y by omega]
  have e2 : months y ((m - 1).toNat + 1) = months y (m - 1).toNat + len y m := by
    rw [months_succ, show 1 + ((m - 1).toNat : Int) = m by omega]
  have e3 := months_up y ((m - 1).toNat + 1) 12 (by omega)
  rw [months_12 h1 h2] at e3
  have e4 := months_bd y (m - 1).toNat
  unfold number
  omega
theorem number_bd {y m d : Int} (h : valid y m d) : 0 ≤ number y m d ∧ number y m d ≤ 2932896 := by
  obtain ⟨h1, h2, h3, h4⟩ := valid_bd h
  obtain ⟨a, b, _, _⟩ := number_in h
  have c := years_up ((y - 1970).toNat + 1) 8030 (by omega)
  have := years_bd (y - 1970).toNat (by omega)
  rw [years_end] at c
  omega
theorem number_inj {y m d y' m' d' : Int} (h : valid y m d) (h' : valid y' m' d') (e : number y m d = number y' m' d') : y = y' ∧ m = m' ∧ d = d' := by
  have b1 := valid_bd h
  have b2 := valid_bd h'
  have n1 := number_in h
  have n2 := number_in h'
  rw [e] at n1
  have hy : y = y' := by
    by_cases c : (y - 1970).toNat + 1 ≤ (y' - 1970).toNat
    · have := years_up _ _ c; omega
    · by_cases c' : (y' - 1970).toNat + 1 ≤ (y - 1970).toNat
      · have := years_up _ _ c'; omega
      · omega
  subst hy
  have hm : m = m' := by
    by_cases c : (m - 1).toNat + 1 ≤ (m' - 1).toNat
    · have := months_up y _ _ c; omega
    · by_cases c' : (m' - 1).toNat + 1 ≤ (m - 1).toNat
      · have := months_up y _ _ c'; omega
      · omega
  subst hm
  unfold number at e
  exact ⟨rfl, rfl, by omega⟩

/-- how many periods of a kind a year has -/
def many (k : Int) : Int := if k = 1 then 12 else if k = 2 then 4 else if k = 3 then 1 else 0
def good (k y i : Int) : Bool := decide (1970 ≤ y) && decide (y ≤ 9999) && decide (1 ≤ i) && decide (i ≤ many k)
/-- how many months a period of a kind has -/
def each (k : Int) : Int := if k = 1 then 1 else if k = 2 then 3 else 12
def first (k y i : Int) : Int := number y ((i - 1) * each k + 1) 1
def last (k y i : Int) : Int := number y (i * each k) (len y (i * each k))
def within (k y i n : Int) : Bool := good k y i && decide (first k y i ≤ n) && decide (n ≤ last k y i)
def cmp (k y i k' y' i' : Int) : Int :=
  if good k y i = true ∧ good k' y' i' = true then
    (if first k y i = first k' y' i' then (if last k y i < last k' y' i' then -1 else if last k' y' i' < last k y i then 1 else 0)
     else if first k y i < first k' y' i' then -1 else if first k' y' i' < first k y i then 1 else 0)
  else 0
/-- a period's place among those of its kind -/
def place (k y i : Int) : Int := (y - 1970) * many k + i - 1

end Go.Proofs.Ytjanhgekocpobaa.Civ
