/- Right periods, and where they begin and end, as the program tells them. -/
import Derived.Test.YtdacpiegfobhbaaCivCodeC
namespace Go.Proofs.Ytdacpiegfobhbaa
open Go.RowKit
set_option maxRecDepth 100000

theorem kM_cases (k : Int) : k = 1 ∧ kM k = 1 ∧ Civ.many k = 12 ∨ k = 2 ∧ kM k = 3 ∧ Civ.many k = 4 ∨ k = 3 ∧ kM k = 12 ∧ Civ.many k = 1 ∨ kM k = 0 ∧ Civ.many k = 0 := by
  unfold kM Civ.many
  by_cases a : k = 1
  · left; simp [a]
  · by_cases b : k = 2
    · right; left; simp [b]
    · by_cases c : k = 3
      · right; right; left; simp [c]
      · right; right; right; simp [a, b, c]
theorem code_isYear_q {y : Int} {b : Bool} (h : (decide (1970 ≤ y) && decide (y ≤ 9999)) = b) (w : World) (n : Nat) :
    Calls Try.prog 57 #[.int .i64 y] (w.drewN n) fun e w' => e = .returned (.bool b) ∧ ∃ m, w' = w.drewN m :=
  quiet_left (code_isYear_at h _)
theorem good_no1 {k y i : Int} (h : Civ.many k = 0) : Civ.good k y i = false := by
  unfold Civ.good; rw [h, Bool.and_assoc]
  simp; omega
theorem good_form {k m : Int} (y i : Int) (h : Civ.many k = m) : Civ.good k y i = (decide (1 ≤ i) && decide (i ≤ m) && (decide (1970 ≤ y) && decide (y ≤ 9999))) := by
  unfold Civ.good; rw [h, Bool.eq_iff_iff]; simp; omega
set_option maxHeartbeats 2000000 in
theorem code_good (k y i : Int) (w : World) :
    Calls Try.prog 47 #[.agg #[.int .i64 k, .int .i64 y, .int .i64 i]] w fun e w' => e = .returned (.bool (Civ.good k y i)) ∧ Below w.heap.size w w' := by
  rcases kM_cases k with ⟨rfl, hk, hm⟩ | ⟨rfl, hk, hm⟩ | ⟨rfl, hk, hm⟩ | ⟨hk, hm⟩
  case inr.inr.inr =>
    have E := Lib.hid (good_no1 (y := y) (i := i) hm)
    have K := Lib.hid hk
    clear hk hm
    go_enter Try.func47, Try.ntmps47
    go_wp2_with (go_at_call 44; refine (code_kind_at K.out _).mono ?_; rintro e w' ⟨rfl, rfl⟩)
    go_quiet ((go_at_call 57; exact code_isYear_q (by assumption) _ _))
    go_wp2
    go_ret
    exact ⟨ret_bool (by rw [E.out]), below_drewN ((Below.refl _ _).alloc (Nat.le_refl _) _) _⟩
  all_goals
    have E : Hid (Civ.good _ y i = (decide (1 ≤ i) && decide (i ≤ _) && (decide (1970 ≤ y) && decide (y ≤ 9999)))) := Lib.hid (good_form y i hm)
    have K := Lib.hid hk
    clear hk hm
    by_cases hy : 1970 ≤ y ∧ y ≤ 9999
    · obtain ⟨h1, h2⟩ := hy
      have Y := Lib.hid (isYear_t h1 h2)
      clear h1 h2
      by_cases h3 : 1 ≤ i
      · go_enter Try.func47, Try.ntmps47
        go_wp2_with (go_at_call 44; refine (code_kind_at K.out _).mono ?_; rintro e w' ⟨rfl, rfl⟩)
        go_quiet ((go_at_call 57; exact code_isYear_q Y.out _ _))
        go_wp2
        go_ret
        exact ⟨ret_bool (by rw [E.out, Y.out]; simp [h3]), below_drewN ((Below.refl _ _).alloc (Nat.le_refl _) _) _⟩
      · have hd : decide (1 ≤ i) = false := by simpa using h3
        go_enter Try.func47, Try.ntmps47
        go_wp2_with (go_at_call 44; refine (code_kind_at K.out _).mono ?_; rintro e w' ⟨rfl, rfl⟩)
        go_quiet ((go_at_call 57; exact code_isYear_q Y.out _ _))
        go_wp2
        go_ret
        exact ⟨ret_bool (by rw [E.out, hd]; simp), below_drewN ((Below.refl _ _).alloc (Nat.le_refl _) _) _⟩
    · have Y := Lib.hid (isYear_f (y := y) (by omega))
      clear hy
      go_enter Try.func47, Try.ntmps47
      go_wp2_with (go_at_call 44; refine (code_kind_at K.out _).mono ?_; rintro e w' ⟨rfl, rfl⟩)
      go_quiet ((go_at_call 57; exact code_isYear_q Y.out _ _))
      go_wp2
      go_ret
      exact ⟨ret_bool (by rw [E.out, Y.out]; simp), below_drewN ((Below.refl _ _).alloc (Nat.le_refl _) _) _⟩

theorem code_good_at {k y i : Int} {g : Bool} (h : Civ.good k y i = g) (w : World) :
    Calls Try.prog 47 #[.agg #[.int .i64 k, .int .i64 y, .int .i64 i]] w fun e w' => e = .returned (.bool g) ∧ Below w.heap.size w w' := by
  have := code_good k y i w
  rw [h] at this
  exact this
theorem kM_each {k y i : Int} (h : Civ.good k y i = true) : 1970 ≤ y ∧ y ≤ 9999 ∧ 1 ≤ i ∧ 1 ≤ kM k ∧ i * kM k ≤ 12 ∧ Civ.each k = kM k := by
  obtain ⟨h1, h2, h3, h4, h5⟩ := many_pos h
  rcases h5 with ⟨rfl, hm⟩ | ⟨rfl, hm⟩ | ⟨rfl, hm⟩ <;> simp [kM, Civ.each] <;> omega
/-- what tells a period's sides: where it keeps the period (block a), and its months (block b) -/
abbrev sider (a b : Nat) : Value := .func (Fn.func 64) #[] #[.pointer (some ⟨a, 0, none⟩), .pointer (some ⟨b, 0, none⟩)]
set_option maxHeartbeats 1000000 in
theorem code_border (k y i : Int) (w : World) :
    Calls Try.prog 58 #[.agg #[.int .i64 k, .int .i64 y, .int .i64 i]] w fun e w' => e = .returned (sider w.heap.size (w.heap.size + 1)) ∧ w' = (w.alloc (.cells #[.int .i64 k, .int .i64 y, .int .i64 i] 24)).alloc (.cells #[.int .i64 (kM k)] 3) := by
  go_enter Try.func58, Try.ntmps58
  go_wp2_with (go_at_call 44; refine (code_kind _ _).mono ?_; rintro e w' ⟨rfl, rfl⟩)
  go_ret
  exact ⟨rfl, rfl⟩
def side (k y i s : Int) : Int := Civ.years (y - 1970).toNat + Civ.months y ((i - 1 + s) * kM k).toNat
theorem side_bd {k y i s : Int} (h : Civ.good k y i = true) (s0 : 0 ≤ s) (s1 : s ≤ 1) : 0 ≤ side k y i s ∧ side k y i s ≤ 2940000 ∧ 0 ≤ (i - 1 + s) * kM k ∧ (i - 1 + s) * kM k ≤ 12 := by
  obtain ⟨h1, h2, h3, h4, h5⟩ := many_pos h
  have yb := Civ.years_bd (y - 1970).toNat (by omega)
  have mb := Civ.months_bd y ((i - 1 + s) * kM k).toNat
  unfold side
  rcases h5 with ⟨rfl, hm⟩ | ⟨rfl, hm⟩ | ⟨rfl, hm⟩ <;> simp [kM] at mb ⊢ <;> omega
set_option maxHeartbeats 1000000 in
theorem code_side (a b : Nat) (k y i s : Int) (w : World) (h : Civ.good k y i = true) (s0 : 0 ≤ s) (s1 : s ≤ 1)
    (c1 : w.cell? ⟨a, 1, none⟩ = some (.int .i64 y)) (c2 : w.cell? ⟨a, 2, none⟩ = some (.int .i64 i)) (c3 : w.cell? ⟨b, 0, none⟩ = some (.int .i64 (kM k))) :
    Calls Try.prog 64 #[.int .i64 s, .pointer (some ⟨a, 0, none⟩), .pointer (some ⟨b, 0, none⟩)] w fun e w' => e = .returned (.int .i64 (side k y i s)) ∧ Below w.heap.size w w' := by
  obtain ⟨b1, b2, b3, b4⟩ := side_bd h s0 s1
  obtain ⟨h1, h2, h3, h4, h5, h6⟩ := kM_each h
  obtain ⟨hM1, hM2⟩ : 0 ≤ kM k ∧ kM k ≤ 12 := by
    rcases kM_cases k with ⟨_, e, _⟩ | ⟨_, e, _⟩ | ⟨_, e, _⟩ | ⟨e, _⟩ <;> omega
  have hi : i ≤ 12 := by
    rcases kM_cases k with ⟨_, e, _⟩ | ⟨_, e, _⟩ | ⟨_, e, _⟩ | ⟨e, _⟩ <;> rw [e] at h4 h5 <;> omega
  have E : Hid (side k y i s = Civ.years (y - 1970).toNat + Civ.months y ((i - 1 + s) * kM k).toNat) := Lib.hid rfl
  generalize kM k = K at *
  clear h h6
  go_enter Try.func64, Try.ntmps64
  go_wp2_with (go_at_call 54; refine (begin_at _ _ _ (by omega) (by omega) (by omega) (by omega)).mono ?_; rintro e w1 ⟨rfl, hb⟩)
  go_ret
  exact ⟨ret_int E.out.symm, by assumption⟩

theorem side_first {k y i : Int} (h : Civ.good k y i = true) : side k y i 0 = Civ.first k y i := by
  obtain ⟨h1, h2, h3, h4, h5, h6⟩ := kM_each h
  unfold side Civ.first Civ.number
  rw [h6, show i - 1 + 0 = i - 1 by omega]
  rw [show (i - 1) * kM k + 1 - 1 = (i - 1) * kM k by omega]; omega
theorem side_last {k y i : Int} (h : Civ.good k y i = true) : side k y i 1 - 1 = Civ.last k y i := by
  obtain ⟨h1, h2, h3, h4, h5, h6⟩ := kM_each h
  unfold side Civ.last Civ.number
  rw [h6, show i - 1 + 1 = i by omega]
  have hp : 1 ≤ i * kM k := by
    rcases kM_cases k with ⟨_, e, _⟩ | ⟨_, e, _⟩ | ⟨_, e, _⟩ | ⟨e, _⟩ <;> rw [e] at h4 ⊢ <;> omega
  have := Civ.months_succ y (i * kM k - 1).toNat
  rw [show (i * kM k - 1).toNat + 1 = (i * kM k).toNat by omega, show 1 + (((i * kM k - 1).toNat : Nat) : Int) = i * kM k by omega] at this
  omega

theorem below_made {k y i : Value} {t t' : TypeId} {K : Value} {W w : World} (hb : Below ((W.alloc (.cells #[k, y, i] t)).alloc (.cells #[K] t')).heap.size ((W.alloc (.cells #[k, y, i] t)).alloc (.cells #[K] t')) w) : Below W.heap.size W w :=
  (((Below.refl _ _).alloc (Nat.le_refl _) _).alloc (by simp) _).trans (hb.mono (by simp; omega))
/-- what tells a period's sides, behind anything that left its cells alone -/
theorem code_side_in (k y i s : Int) (W w : World) (h : Civ.good k y i = true) (s0 : 0 ≤ s) (s1 : s ≤ 1)
    (hb : Below ((W.alloc (.cells #[.int .i64 k, .int .i64 y, .int .i64 i] 24)).alloc (.cells #[.int .i64 (kM k)] 3)).heap.size ((W.alloc (.cells #[.int .i64 k, .int .i64 y, .int .i64 i] 24)).alloc (.cells #[.int .i64 (kM k)] 3)) w) :
    Calls Try.prog 64 #[.int .i64 s, .pointer (some ⟨W.heap.size, 0, none⟩), .pointer (some ⟨W.heap.size + 1, 0, none⟩)] w fun e w' => e = .returned (.int .i64 (side k y i s)) ∧ Below w.heap.size w w' := by
  refine code_side _ _ k y i s w h s0 s1 ?_ ?_ ?_
  · rw [hb.cell (p := ⟨W.heap.size, 1, none⟩) (by simp; omega)]; simp [go_sem]
  · rw [hb.cell (p := ⟨W.heap.size, 2, none⟩) (by simp; omega)]; simp [go_sem]
  · rw [hb.cell (p := ⟨W.heap.size + 1, 0, none⟩) (by simp)]; simp [go_sem]

theorem within_side {k y i n : Int} (g : Civ.good k y i = true) : Civ.within k y i n = (decide (side k y i 0 ≤ n) && decide (n < side k y i 1)) := by
  unfold Civ.within
  rw [g, side_first g, ← side_last g, Bool.eq_iff_iff]
  simp; omega
end Go.Proofs.Ytdacpiegfobhbaa
