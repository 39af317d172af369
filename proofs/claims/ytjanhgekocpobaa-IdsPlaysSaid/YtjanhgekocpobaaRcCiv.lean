/- Right periods, as the program tells them (the civil texts' own, for a program that holds no more of civil). -/
import Derived.Test.YtjanhgekocpobaaBase
import Derived.Test.YtjanhgekocpobaaCivMath
import Derived.BigQuiet
import Derived.Deep.QuietTactic
namespace Go.Proofs.Ytjanhgekocpobaa.Civs
open Go.RowKit
set_option maxRecDepth 100000
theorem quiet_left {P : Program} {f : FuncId} {args : Array Value} {w : World} {n : Nat} {v : Value}
    (h : Calls P f args (w.drewN n) fun e w' => e = .returned v ∧ w.drewN n = w') : Calls P f args (w.drewN n) fun e w'' => e = .returned v ∧ ∃ m, w'' = w.drewN m :=
  h.mono fun _ _ ⟨he, hm⟩ => ⟨he, n, hm.symm⟩
theorem below_drewN {B : Nat} {a w : World} (h : Below B a w) (n : Nat) : Below B a (w.drewN n) := ⟨h.os, h.tape, h.output, h.size, h.block⟩
theorem isYear_t {y : Int} (h1 : 1970 ≤ y) (h2 : y ≤ 9999) : (decide (1970 ≤ y) && decide (y ≤ 9999)) = true := by simp [h1, h2]
theorem isYear_f {y : Int} (h : y < 1970 ∨ 9999 < y) : (decide (1970 ≤ y) && decide (y ≤ 9999)) = false := by
  rw [Bool.and_eq_false_iff]
  rcases h with h | h
  · exact .inl (decide_eq_false (by omega))
  · exact .inr (decide_eq_false (by omega))
/-- how many months a period of a kind has, or 0 -/
def kM (k : Int) : Int := if k = 1 then 1 else if k = 2 then 3 else if k = 3 then 12 else 0
theorem kM_cases (k : Int) : k = 1 ∧ kM k = 1 ∧ Civ.many k = 12 ∨ k = 2 ∧ kM k = 3 ∧ Civ.many k = 4 ∨ k = 3 ∧ kM k = 12 ∧ Civ.many k = 1 ∨ kM k = 0 ∧ Civ.many k = 0 := by
  unfold kM Civ.many
  by_cases a : k = 1
  · left; simp [a]
  · by_cases b : k = 2
    · right; left; simp [b]
    · by_cases c : k = 3
      · right; right; left; simp [c]
      · right; right; right; simp [a, b, c]
theorem good_no1 {k y i : Int} (h : Civ.many k = 0) : Civ.good k y i = false := by
  unfold Civ.good; rw [h, Bool.and_assoc]
  simp; omega
theorem good_form {k m : Int} (y i : Int) (h : Civ.many k = m) : Civ.good k y i = (decide (1 ≤ i) && decide (i ≤ m) && (decide (1970 ≤ y) && decide (y ≤ 9999))) := by
  unfold Civ.good; rw [h, Bool.eq_iff_iff]; simp; omega
end Go.Proofs.Ytjanhgekocpobaa.Civs
