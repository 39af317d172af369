/- The steps, as they come in. -/
import Derived.Test.YtglbpbhdhnikbaaSecPlayL
import Derived.Test.YtglbpbhdhnikbaaLawEnd
import Derived.Lib.SmallJoins
namespace Go.Proofs.Ytglbpbhdhnikbaa
open Go.ChangeShapes Go.WideShapes Go.ChangeAt Go.RowKit Go.Joins Go.Deep
set_option maxRecDepth 100000

theorem cellsStep : Try.prog.cellsOf 42 = 4 := by kernel_rfl
section
variable {H : Type} {enc : TypeId × Value → H} {W : World} {base : Nat} {sp : Nat → Bool} {held : Bool}
theorem int_most {n : Int} (h : (Lit.int .i64 n).wf = true) : n ≤ 9223372036854775807 := by
  simp [Lit.wf, IntKind.min, IntKind.max, IntKind.signed, IntKind.bits] at h
  omega
/-- what holds of a step beside its cells -/
def StepOk (w : World) (o : StepV) : Prop := o.l.length ≤ o.c ∧ o.c ≤ maxLen ∧ Txt w o.A o.l ∧ (o.A = none → o.l = []) ∧ o.i ≤ 9223372036854775807 ∧ o.n ≤ 9223372036854775807
/-- one of them: four cells -/
theorem step_of {fuel : Nat} {cs : List Value} {x : DataW H × List MemPlace} (h : DataW.trod enc Try.prog W base sp held fuel 42 cs = some x) (hl : cs.length = 4) :
    ∃ o : StepV, cs = [.int .i64 o.k, .int .i64 o.i, .int .i64 o.n, .slice o.A o.l.length o.c] ∧ StepOk W o := by
  match cs, hl with
  | [c0, c1, c2, c3], _ =>
    obtain ⟨y0, y1, y2, y3, n, _, _, h0, h1, h2, h3⟩ := trod_struct4 Try.underlying42 h
    have hi : Try.prog.cellsOf 3 = 1 := by kernel_rfl
    have hs : Try.prog.cellsOf 40 = 1 := by kernel_rfl
    obtain ⟨k, e0, _, _⟩ := DataW.trod_int Try.underlying3 h0
    obtain ⟨m, e1, _, w1⟩ := DataW.trod_int Try.underlying3 h1
    obtain ⟨s, e2, _, w2⟩ := DataW.trod_int Try.underlying3 h2
    rw [hs] at h3
    obtain ⟨A, l, c, e3, g1, g2, g3, g4⟩ := bytes_of (v := c3) (by simpa using h3)
    rw [hi] at e0 e1 e2
    simp at e0 e1 e2
    subst e0 e1 e2 e3
    exact ⟨⟨k, m, s, A, l, c⟩, rfl, g1, g2, g3, g4, int_most w1, int_most w2⟩
theorem open_steps {r : Reach} {b0 : Nat} {v : Value} {d : DataW H} {p : List MemPlace} (hv : Value.okWide Try.prog W r b0 33 v) (h : DataW.Trod enc Try.prog W base sp held 33 v d p) :
    ∃ (A : Option Addr) (L : List StepV) (c : Nat), v = .slice A L.length c ∧ Stps W A L := by
  obtain ⟨a, n, c, rfl⟩ := okWide_slice Try.underlying33 hv
  obtain ⟨fuel, hf⟩ := h
  rcases open_slice Try.underlying33 (by simpa [Value.cells] using hf) with ⟨hcs, _⟩ | ⟨y, len, cap, m, k, D, Pl, hcs, _, hl, hm, hm', _, hi⟩
  · simp at hcs
    obtain ⟨rfl, rfl, rfl⟩ := hcs
    exact ⟨none, [], 0, rfl, fun i hi => by simp at hi⟩
  · simp at hcs
    obtain ⟨rfl, rfl, rfl⟩ := hcs
    have hnm : n ≤ m := by
      rw [hm']
      cases sp y.block
      · simp
      · simpa using hl
    rw [cellsStep] at hi
    by_cases hz : n = 0
    · subst hz
      exact ⟨some y, [], c, rfl, fun i hi => by simp at hi⟩
    have each0 : ∀ i : Nat, i < n → ∃ o : StepV, W.cell? ((y.add (i * 4)).add 0) = some (.int .i64 o.k) ∧ W.cell? ((y.add (i * 4)).add 1) = some (.int .i64 o.i) ∧ W.cell? ((y.add (i * 4)).add 2) = some (.int .i64 o.n) ∧ W.cell? ((y.add (i * 4)).add 3) = some (.slice o.A o.l.length o.c) ∧ StepOk W o := fun i hin => by
      obtain ⟨cs', hc, ht⟩ := hi i (by omega)
      obtain ⟨_, hcl, hat⟩ := World.cells?_some hc
      obtain ⟨o, rfl, hg⟩ := step_of ht hcl
      exact ⟨o, hat 0 (by omega), hat 1 (by omega), hat 2 (by omega), hat 3 (by omega), hg⟩
    obtain ⟨b, off, spot⟩ := y
    have hspot : spot = none := by
      obtain ⟨o, g0, _⟩ := each0 0 (by omega)
      simpa [Addr.add] using World.cell?_spot g0
    subst hspot
    have e : ∀ i j : Nat, ((⟨b, off, none⟩ : Addr).add (i * 4)).add j = ⟨b, off + i * 4 + j, none⟩ := fun i j => by
      rw [add_twice]
      unfold Addr.add
      by_cases hj : i * 4 + j = 0
      · have h1 : i = 0 := by omega
        have h2 : j = 0 := by omega
        subst h1 h2
        simp
      · rw [if_neg hj]; simp [Nat.add_assoc]
    have each : ∀ i : Fin n, ∃ o : StepV, W.cell? ⟨b, off + i.val * 4, none⟩ = some (.int .i64 o.k) ∧ W.cell? ⟨b, off + i.val * 4 + 1, none⟩ = some (.int .i64 o.i) ∧ W.cell? ⟨b, off + i.val * 4 + 2, none⟩ = some (.int .i64 o.n) ∧ W.cell? ⟨b, off + i.val * 4 + 3, none⟩ = some (.slice o.A o.l.length o.c) ∧ StepOk W o := fun i => by
      obtain ⟨o, h0, h1, h2, h3, hg⟩ := each0 i.val i.isLt
      rw [e] at h0 h1 h2 h3
      exact ⟨o, h0, h1, h2, h3, hg⟩
    have hL : (List.ofFn fun i => Classical.choose (each i)).length = n := List.length_ofFn
    refine ⟨some ⟨b, off, none⟩, List.ofFn fun i => Classical.choose (each i), c, by rw [hL], fun i hin => ?_⟩
    have hin' : i < n := by rw [hL] at hin; exact hin
    obtain ⟨h0, h1, h2, h3, hg⟩ := Classical.choose_spec (each ⟨i, hin'⟩)
    rw [List.getElem_ofFn]
    exact ⟨b, off, rfl, block_lt_of_cell h0, h0, h1, h2, h3, hg⟩
end
end Go.Proofs.Ytglbpbhdhnikbaa
