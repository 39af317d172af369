/- Of each case that may be just one of the fourteen holds. -/
import Derived.Test.YtahjeiiandpmlaaTtD
namespace Go.Proofs.Ytahjeiiandpmlaa
open Go.RowKit
set_option maxRecDepth 100000
set_option linter.unusedSimpArgs false
set_option linter.unusedVariables false

def chk (t su fr to_ pa pl : Nat) (sa ex bu ov : Bool) : Bool := holdsB t sa su ex fr to_ pa pl bu ov == decide (ofT sa su ex fr to_ pa pl bu ov = t)
theorem chk_all : ((List.range 7).all fun su => (List.range 3).all fun fr => (List.range 3).all fun to_ => (List.range 3).all fun pa => (List.range 3).all fun pl => [true, false].all fun sa => [true, false].all fun ex => [true, false].all fun bu => [true, false].all fun ov => (List.range 14).all fun t => chk (t + 1) (su + 1) fr to_ pa pl sa ex bu ov) = true := by decide +kernel
theorem zone_of {z : Int} (h : zoneB z = true) : ∃ n : Nat, n < 3 ∧ z = n := by
  unfold zoneB at h
  simp at h
  exact ⟨z.toNat, by omega, by omega⟩
theorem may_of {su fr to_ pa pl : Int} (h : mayB su fr to_ pa pl = true) : (∃ n : Nat, n < 7 ∧ su = n + 1) ∧ (∃ n : Nat, n < 3 ∧ fr = n) ∧ (∃ n : Nat, n < 3 ∧ to_ = n) ∧ (∃ n : Nat, n < 3 ∧ pa = n) ∧ (∃ n : Nat, n < 3 ∧ pl = n) := by
  unfold mayB at h
  simp only [Bool.and_eq_true, decide_eq_true_eq] at h
  obtain ⟨⟨⟨⟨⟨h1, h2⟩, h3⟩, h4⟩, h5⟩, h6⟩ := h
  exact ⟨⟨(su - 1).toNat, by omega, by omega⟩, zone_of h3, zone_of h4, zone_of h5, zone_of h6⟩
theorem holds_iff (t : Int) (sa : Bool) (su : Int) (ex : Bool) (fr to_ pa pl : Int) (bu ov : Bool) (h : mayB su fr to_ pa pl = true) (h1 : 1 ≤ t) (h2 : t ≤ 14) : holdsB t sa su ex fr to_ pa pl bu ov = decide (ofT sa su ex fr to_ pa pl bu ov = t) := by
  obtain ⟨⟨a, ha, rfl⟩, ⟨b, hb, rfl⟩, ⟨c, hc, rfl⟩, ⟨d, hd, rfl⟩, ⟨e, he, rfl⟩⟩ := may_of h
  obtain ⟨k, hk, rfl⟩ : ∃ k : Nat, k < 14 ∧ t = k + 1 := ⟨(t - 1).toNat, by omega, by omega⟩
  have H := chk_all
  simp only [List.all_eq_true, List.mem_range] at H
  have := H a ha b hb c hc d hd e he sa (by cases sa <;> simp) ex (by cases ex <;> simp) bu (by cases bu <;> simp) ov (by cases ov <;> simp) k hk
  unfold chk at this
  simpa using this
theorem of_range (sa : Bool) (su : Int) (ex : Bool) (fr to_ pa pl : Int) (bu ov : Bool) (h : mayB su fr to_ pa pl = true) : 1 ≤ ofT sa su ex fr to_ pa pl bu ov ∧ ofT sa su ex fr to_ pa pl bu ov ≤ 14 := by
  unfold ofT
  rw [if_pos h]
  unfold soldV boughtV sentV rendV gotV restV privV
  repeat' split
  all_goals decide
end Go.Proofs.Ytahjeiiandpmlaa
