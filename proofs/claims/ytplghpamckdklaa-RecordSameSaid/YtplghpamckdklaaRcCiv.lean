/- Right periods, as the program tells them (the civil texts' own, for a program that holds no more of civil). -/
import Derived.Test.YtplghpamckdklaaLawEndB
import Derived.Test.YtplghpamckdklaaCivMath
import Derived.BigQuiet
import Derived.Deep.QuietTactic
namespace Go.Proofs.Ytplghpamckdklaa.Civs
open Go.RowKit
set_option maxRecDepth 100000
theorem quiet_left {P : Program} {f : FuncId} {args : Array Value} {w : World} {n : Nat} {v : Value}
    (h : Calls P f args (w.drewN n) fun e w' => e = .returned v ∧ w.drewN n = w') : Calls P f args (w.drewN n) fun e w'' => e = .returned v ∧ ∃ m, w'' = w.drewN m :=
  h.mono fun _ _ ⟨he, hm⟩ => ⟨he, n, hm.symm⟩
theorem below_drewN {B : Nat} {a w : World} (h : Below B a w) (n : Nat) : Below B a (w.drewN n) := ⟨h.os, h.tape, h.output, h.size, h.block⟩
set_option maxHeartbeats 400000 in
theorem code_isYear (y : Int) (w : World) :
    Calls Try.prog 107 #[.int .i64 y] w fun e w' => e = .returned (.bool (decide (1970 ≤ y) && decide (y ≤ 9999))) ∧ w = w' := by
  by_cases h1 : 1970 ≤ y
  · by_cases h2 : y ≤ 9999
    · go_enter Try.func107, Try.ntmps107
      go_wp2
      all_goals go_ret
      all_goals exact ⟨ret_bool (by rw [Bool.eq_iff_iff]; simp_all; try omega), rfl⟩
    · go_enter Try.func107, Try.ntmps107
      go_wp2
      all_goals go_ret
      all_goals exact ⟨ret_bool (by rw [Bool.eq_iff_iff]; simp_all; try omega), rfl⟩
  · go_enter Try.func107, Try.ntmps107
    go_wp2
    all_goals go_ret
    all_goals exact ⟨ret_bool (by rw [Bool.eq_iff_iff]; simp_all; try omega), rfl⟩
theorem code_isYear_at {y : Int} {b : Bool} (h : (decide (1970 ≤ y) && decide (y ≤ 9999)) = b) (w : World) :
    Calls Try.prog 107 #[.int .i64 y] w fun e w' => e = .returned (.bool b) ∧ w = w' := by
  have := code_isYear y w
  rw [h] at this
  exact this
theorem isYear_t {y : Int} (h1 : 1970 ≤ y) (h2 : y ≤ 9999) : (decide (1970 ≤ y) && decide (y ≤ 9999)) = true := by simp [h1, h2]
theorem isYear_f {y : Int} (h : y < 1970 ∨ 9999 < y) : (decide (1970 ≤ y) && decide (y ≤ 9999)) = false := by
  rw [Bool.and_eq_false_iff]
  rcases h with h | h
  · exact .inl (decide_eq_false (by omega))
  · exact .inr (decide_eq_false (by omega))
/-- how many months a period of a kind has, or 0 -/
def kM (k : Int) : Int := if k = 1 then 1 else if k = 2 then 3 else if k = 3 then 12 else 0
set_option maxHeartbeats 400000 in
theorem code_kind (k : Int) (w : World) :
    Calls Try.prog 106 #[.int .i64 k] w fun e w' => e = .returned (.int .i64 (kM k)) ∧ w = w' := by
  go_enter Try.func106, Try.ntmps106
  go_wp2
  all_goals go_ret
  all_goals exact ⟨ret_int (by simp_all [kM]), rfl⟩
theorem code_kind_at {k K : Int} (h : kM k = K) (w : World) :
    Calls Try.prog 106 #[.int .i64 k] w fun e w' => e = .returned (.int .i64 K) ∧ w = w' := by
  have := code_kind k w
  rw [h] at this
  exact this
theorem kM_cases (k : Int) : k = 1 ∧ kM k = 1 ∧ Civ.many k = 12 ∨ k = 2 ∧ kM k = 3 ∧ Civ.many k = 4 ∨ k = 3 ∧ kM k = 12 ∧ Civ.many k = 1 ∨ kM k = 0 ∧ Civ.many k = 0 := by
  unfold kM Civ.many
  by_cases a : k = 1
  · left; simp [a]
  · by_cases b : k = 2
    · right; left; simp [b]
    · by_cases c : k = 3
      · right; right; left; simp [c]
      · right; right; right; simp [a, b, c]
theorem code_isYear_q {y : Int} {b : Bool} (h : (decide (1970 ≤ y) && decide (y ≤ 9999)) = b) (w : World) (n : Nat) :
    Calls Try.prog 107 #[.int .i64 y] (w.drewN n) fun e w' => e = .returned (.bool b) ∧ ∃ m, w' = w.drewN m :=
  quiet_left (code_isYear_at h _)
theorem good_no1 {k y i : Int} (h : Civ.many k = 0) : Civ.good k y i = false := by
  unfold Civ.good; rw [h, Bool.and_assoc]
  simp; omega
theorem good_form {k m : Int} (y i : Int) (h : Civ.many k = m) : Civ.good k y i = (decide (1 ≤ i) && decide (i ≤ m) && (decide (1970 ≤ y) && decide (y ≤ 9999))) := by
  unfold Civ.good; rw [h, Bool.eq_iff_iff]; simp; omega
set_option maxHeartbeats 2000000 in
theorem code_good (k y i : Int) (w : World) :
    Calls Try.prog 84 #[.agg #[.int .i64 k, .int .i64 y, .int .i64 i]] w fun e w' => e = .returned (.bool (Civ.good k y i)) ∧ Below w.heap.size w w' := by
  rcases kM_cases k with ⟨rfl, hk, hm⟩ | ⟨rfl, hk, hm⟩ | ⟨rfl, hk, hm⟩ | ⟨hk, hm⟩
  case inr.inr.inr =>
    have E := Lib.hid (good_no1 (y := y) (i := i) hm)
    have K := Lib.hid hk
    clear hk hm
    go_enter Try.func84, Try.ntmps84
    go_wp2_with (go_at_call 106; refine (code_kind_at K.out _).mono ?_; rintro e w' ⟨rfl, rfl⟩)
    go_quiet ((go_at_call 107; exact code_isYear_q (by assumption) _ _))
    go_wp2
    go_ret
    exact ⟨ret_bool (by rw [E.out]), below_drewN ((Below.refl _ _).alloc (Nat.le_refl _) _) _⟩
  all_goals
    have E : Hid (Civ.good _ y i = (decide (1 ≤ i) && decide (i ≤ _) && (decide (1970 ≤ y) && decide (y ≤ 9999)))) := Lib.hid (good_form y i hm)
    have K := Lib.hid hk
    clear hk hm
    by_cases hy : 1970 ≤ y ∧ y ≤ 9999
    · obtain ⟨h1, h2⟩ := hy
      have Y := Lib.hid (isYear_t h1 h2)
      clear h1 h2
      by_cases h3 : 1 ≤ i
      · go_enter Try.func84, Try.ntmps84
        go_wp2_with (go_at_call 106; refine (code_kind_at K.out _).mono ?_; rintro e w' ⟨rfl, rfl⟩)
        go_quiet ((go_at_call 107; exact code_isYear_q Y.out _ _))
        go_wp2
        go_ret
        exact ⟨ret_bool (by rw [E.out, Y.out]; simp [h3]), below_drewN ((Below.refl _ _).alloc (Nat.le_refl _) _) _⟩
      · have hd : decide (1 ≤ i) = false := by simpa using h3
        go_enter Try.func84, Try.ntmps84
        go_wp2_with (go_at_call 106; refine (code_kind_at K.out _).mono ?_; rintro e w' ⟨rfl, rfl⟩)
        go_quiet ((go_at_call 107; exact code_isYear_q Y.out _ _))
        go_wp2
        go_ret
        exact ⟨ret_bool (by rw [E.out, hd]; simp), below_drewN ((Below.refl _ _).alloc (Nat.le_refl _) _) _⟩
    · have Y := Lib.hid (isYear_f (y := y) (by omega))
      clear hy
      go_enter Try.func84, Try.ntmps84
      go_wp2_with (go_at_call 106; refine (code_kind_at K.out _).mono ?_; rintro e w' ⟨rfl, rfl⟩)
      go_quiet ((go_at_call 107; exact code_isYear_q Y.out _ _))
      go_wp2
      go_ret
      exact ⟨ret_bool (by rw [E.out, Y.out]; simp), below_drewN ((Below.refl _ _).alloc (Nat.le_refl _) _) _⟩
end Go.Proofs.Ytplghpamckdklaa.Civs
