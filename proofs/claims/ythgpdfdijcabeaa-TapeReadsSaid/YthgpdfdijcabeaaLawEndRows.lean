/- A slice of slices of bytes, as it comes in. -/
import Derived.Test.YthgpdfdijcabeaaLawEnd
namespace Go.Proofs.Ythgpdfdijcabeaa
open Go.ChangeShapes Go.WideShapes Go.ChangeAt Go.RowKit
set_option maxRecDepth 100000
section
variable {H : Type} {enc : TypeId × Value → H} {W W' : World}

/-- a slice of slices of bytes, as it lies -/
def TextRows (w : World) (A : Option Addr) (L : List Text) : Prop :=
  ∀ i (h : i < L.length), ∃ a Ai ci, A = some a ∧ a.block < w.heap.size ∧ w.cell? (a.add i) = some (.slice Ai L[i].length ci) ∧ Txt w Ai L[i] ∧ (Ai = none → L[i] = []) ∧ L[i].length ≤ 9223372036854775807
theorem TextRows.below {w w' : World} {A : Option Addr} {L : List Text} (h : TextRows w A L) (hb : Below w.heap.size w w') : TextRows w' A L := fun i hi => by
  obtain ⟨a, Ai, ci, e, hbl, hc, hT, hn, hl⟩ := h i hi
  exact ⟨a, Ai, ci, e, Nat.lt_of_lt_of_le hbl hb.size, (hb.cell (by rw [add_block]; exact hbl)).trans hc, hT.below hb, hn, hl⟩
theorem open_rows {r : Reach} {b0 base : Nat} {sp : Nat → Bool} {held : Bool} {v : Value} {d : DataW H} {p : List MemPlace} (hv : Value.okWide Try.prog W r b0 24 v) (h : DataW.Trod enc Try.prog W base sp held 24 v d p) :
    ∃ (A : Option Addr) (L : List Text) (c : Nat), v = .slice A L.length c ∧ TextRows W A L ∧ L.length ≤ 9223372036854775807 := by
  obtain ⟨a, n, c, rfl⟩ := okWide_slice Try.underlying24 hv
  obtain ⟨fuel, hf⟩ := h
  rcases Go.Deep.open_slice1 Try.underlying24 (by kernel_rfl) (by simpa [Value.cells] using hf) with ⟨hcs, _⟩ | ⟨y, len, cap, m, k, V, D, Pl, hcs, _, hl, hm, hm', _, hi⟩
  · simp at hcs
    obtain ⟨rfl, rfl, rfl⟩ := hcs
    exact ⟨none, [], 0, rfl, fun i hi => by simp at hi, by simp⟩
  · simp at hcs
    obtain ⟨rfl, rfl, rfl⟩ := hcs
    have hnm : n ≤ m := by
      rw [hm']
      cases sp y.block
      · simp
      · simpa using hl
    have each : ∀ i : Fin n, ∃ l : Text, ∃ Ai ci, V i.val = .slice Ai l.length ci ∧ l.length ≤ ci ∧ ci ≤ maxLen ∧ Txt W Ai l ∧ (Ai = none → l = []) := fun i => by
      obtain ⟨A, l, c', h1, h2, h3, h4, h5⟩ := bytes_of (hi i.val (by omega)).2
      exact ⟨l, A, c', h1, h2, h3, h4, h5⟩
    have hL : (List.ofFn fun i => Classical.choose (each i)).length = n := List.length_ofFn
    refine ⟨some y, List.ofFn fun i => Classical.choose (each i), c, by rw [hL], fun i hin => ?_, by rw [hL]; exact Nat.le_trans hl hm⟩
    have hin' : i < n := by rw [hL] at hin; exact hin
    obtain ⟨Ai, ci, h1, h2, h3, h4, h5⟩ := Classical.choose_spec (each ⟨i, hin'⟩)
    have hcell := (hi i (by omega)).1
    have hblk := block_lt_of_cell hcell
    rw [add_block] at hblk
    rw [List.getElem_ofFn]
    exact ⟨y, Ai, ci, rfl, hblk, hcell.trans (congrArg some h1), h4, h5, Nat.le_trans h2 h3⟩
end
end Go.Proofs.Ythgpdfdijcabeaa
