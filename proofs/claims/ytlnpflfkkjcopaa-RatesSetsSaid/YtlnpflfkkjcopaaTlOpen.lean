/- Spans, as they come in. -/
import Derived.Test.YtlnpflfkkjcopaaTlC
import Derived.Test.YtlnpflfkkjcopaaLawEndB
import Derived.Lib.SmallJoins
namespace Go.Proofs.Ytlnpflfkkjcopaa
open Go.ChangeShapes Go.WideShapes Go.ChangeAt Go.RowKit Go.Joins Go.Deep
set_option maxRecDepth 100000

theorem cellsSp : Try.prog.cellsOf 24 = 2 := by kernel_rfl
theorem cellsRsp : Try.prog.cellsOf 29 = 3 := by kernel_rfl
section
variable {H : Type} {enc : TypeId × Value → H} {W : World} {base : Nat} {sp : Nat → Bool} {held : Bool}
theorem open_span {r : Reach} {b0 : Nat} {v : Value} {d : DataW H} {p : List MemPlace} (hv : Value.okWide Try.prog W r b0 24 v)
    (h : DataW.Trod enc Try.prog W base sp held 24 v d p) : ∃ f u : Int, v = .agg #[.int .i64 f, .int .i64 u] := by
  obtain ⟨c0, c1, y0, y1, m, rfl, rfl, rfl, h0, h1⟩ := open_agg2 Try.underlying24 (by kernel_rfl) cellsSp hv h
  obtain ⟨k, e0, _, _⟩ := DataW.trod_int Try.underlying3 h0
  obtain ⟨y, e1, _, _⟩ := DataW.trod_int Try.underlying3 h1
  simp at e0 e1
  subst e0 e1
  exact ⟨k, y, rfl⟩
theorem open_rspan {r : Reach} {b0 : Nat} {v : Value} {d : DataW H} {p : List MemPlace} (hv : Value.okWide Try.prog W r b0 29 v)
    (h : DataW.Trod enc Try.prog W base sp held 29 v d p) : ∃ f u x : Int, v = .agg #[.int .i64 f, .int .i64 u, .int .i64 x] := by
  obtain ⟨c0, c1, c2, y0, y1, y2, m, rfl, rfl, rfl, h0, h1, h2⟩ := open_agg3 Try.underlying29 (by kernel_rfl) cellsRsp hv h
  obtain ⟨k, e0, _, _⟩ := DataW.trod_int Try.underlying3 h0
  obtain ⟨y, e1, _, _⟩ := DataW.trod_int Try.underlying3 h1
  obtain ⟨z, e2, _, _⟩ := DataW.trod_int Try.underlying3 h2
  simp at e0 e1 e2
  subst e0 e1 e2
  exact ⟨k, y, z, rfl⟩
theorem rspan_of {fuel : Nat} {cs : List Value} {x : DataW H × List MemPlace} (h : DataW.trod enc Try.prog W base sp held fuel 29 cs = some x) (hl : cs.length = 3) : ∃ o : Sp, cs = flatP o := by
  match cs, hl with
  | [c0, c1, c2], _ =>
    obtain ⟨y0, y1, y2, n, _, _, h0, h1, h2⟩ := trod_struct3 Try.underlying29 h
    have hi : Try.prog.cellsOf 3 = 1 := by kernel_rfl
    obtain ⟨k, e0, _, _⟩ := DataW.trod_int Try.underlying3 h0
    obtain ⟨m, e1, _, _⟩ := DataW.trod_int Try.underlying3 h1
    obtain ⟨s, e2, _, _⟩ := DataW.trod_int Try.underlying3 h2
    rw [hi] at e0 e1 e2
    simp at e0 e1 e2
    subst e0 e1 e2
    exact ⟨(k, m, s), rfl⟩
theorem open_rspans {r : Reach} {b0 : Nat} {v : Value} {d : DataW H} {p : List MemPlace} (hv : Value.okWide Try.prog W r b0 22 v) (h : DataW.Trod enc Try.prog W base sp held 22 v d p) :
    ∃ (A : Option Addr) (L : List Sp) (c : Nat), v = .slice A L.length c ∧ Row W A L := by
  obtain ⟨a, n, c, rfl⟩ := okWide_slice Try.underlying22 hv
  obtain ⟨fuel, hf⟩ := h
  rcases open_slice Try.underlying22 (by simpa [Value.cells] using hf) with ⟨hcs, _⟩ | ⟨y, len, cap, m, k, D, Pl, hcs, _, hl, hm, hm', _, hi⟩
  · simp at hcs
    obtain ⟨rfl, rfl, rfl⟩ := hcs
    exact ⟨none, [], 0, rfl, Row.nil⟩
  · simp at hcs
    obtain ⟨rfl, rfl, rfl⟩ := hcs
    have hnm : n ≤ m := by
      rw [hm']
      cases sp y.block
      · simp
      · simpa using hl
    rw [cellsRsp] at hi
    by_cases hz : n = 0
    · subst hz
      exact ⟨some y, [], c, rfl, Row.nil⟩
    have each0 : ∀ i : Nat, i < n → ∃ o : Sp, W.cell? ((y.add (i * 3)).add 0) = some (.int .i64 o.1) ∧ W.cell? ((y.add (i * 3)).add 1) = some (.int .i64 o.2.1) ∧ W.cell? ((y.add (i * 3)).add 2) = some (.int .i64 o.2.2) := fun i hin => by
      obtain ⟨cs', hc, ht⟩ := hi i (by omega)
      obtain ⟨_, hcl, hat⟩ := World.cells?_some hc
      obtain ⟨o, rfl⟩ := rspan_of ht hcl
      exact ⟨o, hat 0 (by decide), hat 1 (by decide), hat 2 (by decide)⟩
    obtain ⟨b, off, spot⟩ := y
    have hspot : spot = none := by
      obtain ⟨o, g0, _⟩ := each0 0 (by omega)
      simpa [Addr.add] using World.cell?_spot g0
    subst hspot
    have e : ∀ i j : Nat, ((⟨b, off, none⟩ : Addr).add (i * 3)).add j = ⟨b, off + i * 3 + j, none⟩ := fun i j => by
      rw [Addr.add_mid, Addr.add_mid]
    have each : ∀ i : Fin n, ∃ o : Sp, W.cell? ⟨b, off + i.val * 3, none⟩ = some (.int .i64 o.1) ∧ W.cell? ⟨b, off + i.val * 3 + 1, none⟩ = some (.int .i64 o.2.1) ∧ W.cell? ⟨b, off + i.val * 3 + 2, none⟩ = some (.int .i64 o.2.2) := fun i => by
      obtain ⟨o, h0, h1, h2⟩ := each0 i.val i.isLt
      rw [e] at h0 h1 h2
      exact ⟨o, h0, h1, h2⟩
    have hL : (List.ofFn fun i => Classical.choose (each i)).length = n := List.length_ofFn
    refine ⟨some ⟨b, off, none⟩, List.ofFn fun i => Classical.choose (each i), c, by rw [hL], fun _ => ⟨b, off, rfl, ?_, ?_⟩⟩
    · obtain ⟨o, h0, _⟩ := each ⟨0, by omega⟩
      exact block_lt_of_cell h0
    · intro j v hv
      have hj := (List.getElem?_eq_some_iff.1 hv).1
      rw [flat_len, hL] at hj
      have hq : j / 3 < n := by omega
      obtain ⟨h0, h1, h2⟩ := Classical.choose_spec (each ⟨j / 3, hq⟩)
      obtain ⟨g0, g1, g2⟩ := flat_at (List.ofFn fun i => Classical.choose (each i)) (j / 3) (by rw [hL]; exact hq)
      rw [List.getElem_ofFn] at g0 g1 g2
      have h3 : j = 3 * (j / 3) ∨ j = 3 * (j / 3) + 1 ∨ j = 3 * (j / 3) + 2 := by omega
      rcases h3 with h3 | h3 | h3
      · rw [h3, g0] at hv
        injection hv with hv
        subst hv
        rw [show off + j = off + j / 3 * 3 by omega]
        exact h0
      · rw [h3, g1] at hv
        injection hv with hv
        subst hv
        rw [show off + j = off + j / 3 * 3 + 1 by omega]
        exact h1
      · rw [h3, g2] at hv
        injection hv with hv
        subst hv
        rw [show off + j = off + j / 3 * 3 + 2 by omega]
        exact h2
end
end Go.Proofs.Ytlnpflfkkjcopaa
