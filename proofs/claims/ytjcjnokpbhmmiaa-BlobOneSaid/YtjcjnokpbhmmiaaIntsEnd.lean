/- A slice of whole numbers, as it comes in, opened. -/
import Derived.Test.YtjcjnokpbhmmiaaBlobOneL
import Derived.Test.YtjcjnokpbhmmiaaLawEnd
namespace Go.Proofs.Ytjcjnokpbhmmiaa
open Go.ChangeShapes Go.WideShapes Go.ChangeAt Go.RowKit
set_option maxRecDepth 100000
section
variable {H : Type} {enc : TypeId × Value → H} {W W' : World}
theorem int_of {fuel : Nat} {v : Value} {base : Nat} {sp : Nat → Bool} {held : Bool} {x : DataW H × List MemPlace} (h : DataW.trod enc Try.prog W base sp held fuel 3 [v] = some x) :
    ∃ n : Int, v = .int .i64 n ∧ -9223372036854775808 ≤ n ∧ n ≤ 9223372036854775807 := by
  obtain ⟨k, e0, _, w1⟩ := DataW.trod_int Try.underlying3 h
  simp at e0
  refine ⟨k, e0, ?_⟩
  simp [Lit.wf, IntKind.min, IntKind.max, IntKind.signed, IntKind.bits] at w1
  omega
theorem open_intsL {r : Reach} {b0 base : Nat} {sp : Nat → Bool} {held : Bool} {v : Value} {d : DataW H} {p : List MemPlace} (hv : Value.okWide Try.prog W r b0 43 v) (h : DataW.Trod enc Try.prog W base sp held 43 v d p) :
    ∃ (A : Option Addr) (L : List Int) (c : Nat), v = .slice A L.length c ∧ Ints W A L ∧ L.length ≤ 9223372036854775807 := by
  obtain ⟨a, n, c, rfl⟩ := okWide_slice Try.underlying43 hv
  obtain ⟨fuel, hf⟩ := h
  rcases Go.Deep.open_slice1 Try.underlying43 (by kernel_rfl) (by simpa [Value.cells] using hf) with ⟨hcs, _⟩ | ⟨y, len, cap, m, k, V, D, Pl, hcs, _, hl, hm, hm', _, hi⟩
  · simp at hcs
    obtain ⟨rfl, rfl, rfl⟩ := hcs
    exact ⟨none, [], 0, rfl, fun i hi => by simp at hi, by simp⟩
  · simp at hcs
    obtain ⟨rfl, rfl, rfl⟩ := hcs
    have hnm : n ≤ m := by
      rw [hm']
      cases sp y.block
      · simp
      · simpa using hl
    have each : ∀ i : Fin n, ∃ z : Int, V i.val = .int .i64 z ∧ -9223372036854775808 ≤ z ∧ z ≤ 9223372036854775807 := fun i => int_of (hi i.val (by omega)).2
    have hL : (List.ofFn fun i => Classical.choose (each i)).length = n := List.length_ofFn
    refine ⟨some y, List.ofFn fun i => Classical.choose (each i), c, by rw [hL], fun i hin => ?_, by rw [hL]; exact Nat.le_trans hl hm⟩
    have hin' : i < n := by rw [hL] at hin; exact hin
    obtain ⟨h1, h2⟩ := Classical.choose_spec (each ⟨i, hin'⟩)
    have hcell := (hi i (by omega)).1
    have hblk := block_lt_of_cell hcell
    rw [add_block] at hblk
    rw [List.getElem_ofFn]
    exact ⟨y, rfl, hblk, hcell.trans (congrArg some h1), h2⟩
end
end Go.Proofs.Ytjcjnokpbhmmiaa
