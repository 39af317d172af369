/- What is set, in a row, as it comes in. -/
import Derived.Test.YtgljajoknmgoeaaGreatPpJ
import Derived.Test.YtgljajoknmgoeaaGreatLawEndB
import Derived.Lib.SmallJoins
import Derived.SizedLaws
import Derived.ArgAppend
namespace Go.Proofs.YtgljajoknmgoeaaGreat
open Go.ChangeShapes Go.WideShapes Go.ChangeAt Go.RowKit Go.Joins Go.Deep
set_option maxRecDepth 100000

abbrev OpP := Int × ByteArray × ByteArray × Sp
def flatOpP (p : OpP) : List Value := [.int .i64 p.1, .string p.2.1, .string p.2.2.1, .int .i64 p.2.2.2.1, .int .i64 p.2.2.2.2.1, .int .i64 p.2.2.2.2.2]
def flatsOpP (L : List OpP) : List Value := L.flatMap flatOpP
theorem flatsOpP_len (L : List OpP) : (flatsOpP L).length = 6 * L.length := by
  induction L with
  | nil => rfl
  | cons p L ih =>
    have e : flatsOpP (p :: L) = flatOpP p ++ flatsOpP L := rfl
    rw [e, List.length_append, ih]
    simp [flatOpP]
    omega
theorem flatsOpP_append (L M : List OpP) : flatsOpP (L ++ M) = flatsOpP L ++ flatsOpP M := List.flatMap_append
theorem flatsOpP_one (M : List OpP) : ∀ u ∈ flatsOpP M, u.oneCell' = true := by
  intro u hu
  obtain ⟨p, _, hp⟩ := List.mem_flatMap.1 hu
  simp only [flatOpP, List.mem_cons, List.not_mem_nil, or_false] at hp
  rcases hp with rfl | rfl | rfl | rfl | rfl | rfl <;> rfl
theorem flatsOpP_at (L : List OpP) : ∀ (i : Nat) (h : i < L.length), (flatsOpP L)[6 * i]? = some (.int .i64 L[i].1) ∧ (flatsOpP L)[6 * i + 1]? = some (.string L[i].2.1) ∧ (flatsOpP L)[6 * i + 2]? = some (.string L[i].2.2.1) ∧ (flatsOpP L)[6 * i + 3]? = some (.int .i64 L[i].2.2.2.1) ∧ (flatsOpP L)[6 * i + 4]? = some (.int .i64 L[i].2.2.2.2.1) ∧ (flatsOpP L)[6 * i + 5]? = some (.int .i64 L[i].2.2.2.2.2) := by
  induction L with
  | nil => intro i h; simp at h
  | cons p L ih =>
    intro i h
    have e : flatsOpP (p :: L) = flatOpP p ++ flatsOpP L := rfl
    rw [e]
    cases i with
    | zero => exact ⟨rfl, rfl, rfl, rfl, rfl, rfl⟩
    | succ i =>
      obtain ⟨h0, h1, h2, h3, h4, h5⟩ := ih i (by simpa using h)
      have hl : (flatOpP p).length = 6 := rfl
      refine ⟨?_, ?_, ?_, ?_, ?_, ?_⟩
      · rw [List.getElem?_append_right (by rw [hl]; omega), hl, show 6 * (i + 1) - 6 = 6 * i by omega]; simpa using h0
      · rw [List.getElem?_append_right (by rw [hl]; omega), hl, show 6 * (i + 1) + 1 - 6 = 6 * i + 1 by omega]; simpa using h1
      · rw [List.getElem?_append_right (by rw [hl]; omega), hl, show 6 * (i + 1) + 2 - 6 = 6 * i + 2 by omega]; simpa using h2
      · rw [List.getElem?_append_right (by rw [hl]; omega), hl, show 6 * (i + 1) + 3 - 6 = 6 * i + 3 by omega]; simpa using h3
      · rw [List.getElem?_append_right (by rw [hl]; omega), hl, show 6 * (i + 1) + 4 - 6 = 6 * i + 4 by omega]; simpa using h4
      · rw [List.getElem?_append_right (by rw [hl]; omega), hl, show 6 * (i + 1) + 5 - 6 = 6 * i + 5 by omega]; simpa using h5
/-- at that address they lie, one behind the other; of none nothing is asked -/
def RowOpP (w : World) (A : Option Addr) (L : List OpP) : Prop :=
  L ≠ [] → ∃ b o, A = some ⟨b, o, none⟩ ∧ b < w.heap.size ∧ w.rangeAt b o (flatsOpP L)
theorem RowOpP.on {w W : World} {A : Option Addr} {L : List OpP} (h : RowOpP w A L) (hb : Below w.heap.size w W) : RowOpP W A L := fun hn => by
  obtain ⟨b, o, e, hl, hr⟩ := h hn
  exact ⟨b, o, e, Nat.lt_of_lt_of_le hl hb.size, fun j v hv => cell_on hb (hr j v hv)⟩
theorem RowOpP.nil {w : World} {A : Option Addr} : RowOpP w A [] := fun h => absurd rfl h
theorem RowOpP.at_ {w : World} {A : Option Addr} {L : List OpP} (h : RowOpP w A L) (i : Nat) (hi : i < L.length) : ∃ b o, A = some ⟨b, o, none⟩ ∧ b < w.heap.size ∧
    w.cell? ⟨b, o + i * 6, none⟩ = some (.int .i64 L[i].1) ∧ w.cell? ⟨b, o + i * 6 + 1, none⟩ = some (.string L[i].2.1) ∧ w.cell? ⟨b, o + i * 6 + 2, none⟩ = some (.string L[i].2.2.1) ∧ w.cell? ⟨b, o + i * 6 + 3, none⟩ = some (.int .i64 L[i].2.2.2.1) ∧ w.cell? ⟨b, o + i * 6 + 4, none⟩ = some (.int .i64 L[i].2.2.2.2.1) ∧ w.cell? ⟨b, o + i * 6 + 5, none⟩ = some (.int .i64 L[i].2.2.2.2.2) := by
  obtain ⟨b, o, e, hl, hr⟩ := h (by intro h0; subst h0; simp at hi)
  obtain ⟨h0, h1, h2, h3, h4, h5⟩ := flatsOpP_at L i hi
  have g0 := hr _ _ h0
  have g1 := hr _ _ h1
  have g2 := hr _ _ h2
  have g3 := hr _ _ h3
  have g4 := hr _ _ h4
  have g5 := hr _ _ h5
  rw [← Nat.add_assoc] at g1 g2 g3 g4 g5
  rw [Nat.mul_comm 6 i] at g0 g1 g2 g3 g4 g5
  exact ⟨b, o, e, hl, g0, g1, g2, g3, g4, g5⟩
theorem boxOpP {W : World} {g : Nat} {p : OpP} {t : TypeId} (h : W.heap[g]? = some (.cells #[.int .i64 p.1, .string p.2.1, .string p.2.2.1, .int .i64 p.2.2.2.1, .int .i64 p.2.2.2.2.1, .int .i64 p.2.2.2.2.2] t (0, 0))) : RowOpP W (some ⟨g, 0, none⟩) [p] := fun _ => ⟨g, 0, rfl, heapLt h, fun j v hv => by
  match j with
  | 0 => simp [flatsOpP, flatOpP] at hv; subst hv; rw [cell_of_row W g 0 _ _ _ h]; rfl
  | 1 => simp [flatsOpP, flatOpP] at hv; subst hv; rw [cell_of_row W g 1 _ _ _ h]; rfl
  | 2 => simp [flatsOpP, flatOpP] at hv; subst hv; rw [cell_of_row W g 2 _ _ _ h]; rfl
  | 3 => simp [flatsOpP, flatOpP] at hv; subst hv; rw [cell_of_row W g 3 _ _ _ h]; rfl
  | 4 => simp [flatsOpP, flatOpP] at hv; subst hv; rw [cell_of_row W g 4 _ _ _ h]; rfl
  | 5 => simp [flatsOpP, flatOpP] at hv; subst hv; rw [cell_of_row W g 5 _ _ _ h]; rfl
  | j + 6 => simp [flatsOpP, flatOpP] at hv⟩
theorem cellsOpP {W : World} {g : Nat} {v0 v1 v2 v3 v4 v5 : Value} {t : TypeId} (h : W.heap[g]? = some (.cells #[v0, v1, v2, v3, v4, v5] t (0, 0))) : W.cell? ⟨g, 0, none⟩ = some v0 ∧ W.cell? ⟨g, 1, none⟩ = some v1 ∧ W.cell? ⟨g, 2, none⟩ = some v2 ∧ W.cell? ⟨g, 3, none⟩ = some v3 ∧ W.cell? ⟨g, 4, none⟩ = some v4 ∧ W.cell? ⟨g, 5, none⟩ = some v5 :=
  ⟨cell_of_row W g 0 _ _ _ h, cell_of_row W g 1 _ _ _ h, cell_of_row W g 2 _ _ _ h, cell_of_row W g 3 _ _ _ h, cell_of_row W g 4 _ _ _ h, cell_of_row W g 5 _ _ _ h⟩
theorem cellsOfOpP : Tryz.prog.cellsOf 26 = 6 := by kernel_rfl
theorem bytesOfOpP : Tryz.prog.bytesOf 26 = 64 := by kernel_rfl
section
variable {H : Type} {enc : TypeId × Value → H} {W : World} {base : Nat} {sp : Nat → Bool} {held : Bool}
theorem ofOpP_3 {fuel : Nat} {cs : List Value} {x : DataW H × List MemPlace} (h : DataW.trod enc Tryz.prog W base sp held fuel 24 cs = some x) (hl : cs.length = 3) : ∃ o : Int × Int × Int, cs = [.int .i64 o.1, .int .i64 o.2.1, .int .i64 o.2.2] ∧ (True) := by
  match cs, hl with
  | [c0, c1, c2], _ =>
    obtain ⟨y0, y1, y2, n, _, _, h0, h1, h2⟩ := trod_struct3 Tryz.underlying24 h
    have hcint : Tryz.prog.cellsOf 3 = 1 := by kernel_rfl
    obtain ⟨q0, e0, _, _⟩ := DataW.trod_int Tryz.underlying3 h0
    rw [hcint] at e0
    obtain ⟨q1, e1, _, _⟩ := DataW.trod_int Tryz.underlying3 h1
    rw [hcint] at e1
    obtain ⟨q2, e2, _, _⟩ := DataW.trod_int Tryz.underlying3 h2
    rw [hcint] at e2
    simp at e0 e1 e2
    subst e0
    subst e1
    subst e2
    exact ⟨(q0, q1, q2), rfl, trivial⟩
theorem ofOpP {fuel : Nat} {cs : List Value} {x : DataW H × List MemPlace} (h : DataW.trod enc Tryz.prog W base sp held fuel 26 cs = some x) (hl : cs.length = 6) : ∃ o : Int × ByteArray × ByteArray × Sp, cs = [.int .i64 o.1, .string o.2.1, .string o.2.2.1, .int .i64 o.2.2.2.1, .int .i64 o.2.2.2.2.1, .int .i64 o.2.2.2.2.2] ∧ (o.2.1.size ≤ 9223372036854775807 ∧ o.2.2.1.size ≤ 9223372036854775807) := by
  match cs, hl with
  | [c0, c1, c2, c3, c4, c5], _ =>
    obtain ⟨y0, y1, y2, y3, n, _, _, h0, h1, h2, h3⟩ := trod_struct4 Tryz.underlying26 h
    have hcint : Tryz.prog.cellsOf 3 = 1 := by kernel_rfl
    have hcstr : Tryz.prog.cellsOf 9 = 1 := by kernel_rfl
    obtain ⟨q0, e0, _, _⟩ := DataW.trod_int Tryz.underlying3 h0
    rw [hcint] at e0
    obtain ⟨q1, e1, _, w1⟩ := DataW.trod_string Tryz.underlying9 h1
    rw [hcstr] at e1
    obtain ⟨q2, e2, _, w2⟩ := DataW.trod_string Tryz.underlying9 h2
    rw [hcstr] at e2
    have hcs3 : Tryz.prog.cellsOf 24 = 3 := by kernel_rfl
    rw [hcs3] at h3
    obtain ⟨q3, e3, w3⟩ := ofOpP_3 h3 (by simp)
    simp at e0 e1 e2 e3
    subst e0
    subst e1
    subst e2
    obtain ⟨rfl, rfl, rfl⟩ := e3
    exact ⟨(q0, q1, q2, q3.1, q3.2.1, q3.2.2), rfl, ⟨w1, w2⟩⟩
theorem openOpP {r : Reach} {b0 : Nat} {v : Value} {d : DataW H} {p : List MemPlace} (hv : Value.okWide Tryz.prog W r b0 26 v)
    (h : DataW.Trod enc Tryz.prog W base sp held 26 v d p) : ∃ x : OpP, v = .agg #[.int .i64 x.1, .string x.2.1, .string x.2.2.1, .int .i64 x.2.2.2.1, .int .i64 x.2.2.2.2.1, .int .i64 x.2.2.2.2.2] ∧ (x.2.1.size ≤ 9223372036854775807 ∧ x.2.2.1.size ≤ 9223372036854775807) := by
  obtain ⟨cs, rfl, hsz⟩ := okWide_struct Tryz.underlying26 hv
  obtain ⟨fuel, hf⟩ := h
  obtain ⟨o, ho, hw⟩ := ofOpP (cs := cs.toList) (by simpa [Value.cells] using hf) (by rw [Array.length_toList, hsz, cellsOfOpP])
  refine ⟨o, ?_, hw⟩
  congr 1
  apply Array.ext'
  rw [ho]
theorem openOpPs {r : Reach} {b0 : Nat} {v : Value} {d : DataW H} {p : List MemPlace} (hv : Value.okWide Tryz.prog W r b0 22 v) (h : DataW.Trod enc Tryz.prog W base (fun _ => true) held 22 v d p) :
    ∃ (A : Option Addr) (L : List OpP) (c : Nat), v = .slice A L.length c ∧ RowOpP W A L ∧ (A = none → L = [] ∧ c = 0) ∧ L.length ≤ c ∧ (∀ x ∈ L, x.2.1.size ≤ 9223372036854775807 ∧ x.2.2.1.size ≤ 9223372036854775807) ∧ (d = .nil ∧ L = [] ∨ ∃ els spr, d = .slice els spr ∧ els.length = L.length) := by
  obtain ⟨a, n, c, rfl⟩ := okWide_slice Tryz.underlying22 hv
  obtain ⟨fuel, hf⟩ := h
  rcases open_slice Tryz.underlying22 (by simpa [Value.cells] using hf) with ⟨hcs, hx⟩ | ⟨y, len, cap, m, k, D, Pl, hcs, _, hl, hm, hm', hx, hi⟩
  · simp at hcs hx
    obtain ⟨rfl, rfl, rfl⟩ := hcs
    exact ⟨none, [], 0, rfl, RowOpP.nil, fun _ => ⟨rfl, rfl⟩, Nat.le_refl _, fun x hx => absurd hx (by simp), .inl ⟨hx.1, rfl⟩⟩
  · simp only [Prod.mk.injEq] at hx
    simp at hcs
    obtain ⟨rfl, rfl, rfl⟩ := hcs
    have hnm : n ≤ m := by
      rw [hm']
      simpa using hl
    rw [cellsOfOpP] at hi
    by_cases hz : n = 0
    · subst hz
      exact ⟨some y, [], c, rfl, RowOpP.nil, fun h => (by cases h), Nat.zero_le _, fun x hx => absurd hx (by simp), .inr ⟨_, _, hx.1, by simp⟩⟩
    have each0 : ∀ i : Nat, i < n → ∃ o : OpP, (W.cell? ((y.add (i * 6)).add 0) = some (.int .i64 o.1) ∧ W.cell? ((y.add (i * 6)).add 1) = some (.string o.2.1) ∧ W.cell? ((y.add (i * 6)).add 2) = some (.string o.2.2.1) ∧ W.cell? ((y.add (i * 6)).add 3) = some (.int .i64 o.2.2.2.1) ∧ W.cell? ((y.add (i * 6)).add 4) = some (.int .i64 o.2.2.2.2.1) ∧ W.cell? ((y.add (i * 6)).add 5) = some (.int .i64 o.2.2.2.2.2)) ∧ (o.2.1.size ≤ 9223372036854775807 ∧ o.2.2.1.size ≤ 9223372036854775807) := fun i hin => by
      obtain ⟨cs', hc, ht⟩ := hi i (by omega)
      obtain ⟨_, hcl, hat⟩ := World.cells?_some hc
      obtain ⟨o, rfl, hw⟩ := ofOpP ht hcl
      exact ⟨o, ⟨hat 0 (by decide), hat 1 (by decide), hat 2 (by decide), hat 3 (by decide), hat 4 (by decide), hat 5 (by decide)⟩, hw⟩
    obtain ⟨b, off, spot⟩ := y
    have hspot : spot = none := by
      obtain ⟨o, ⟨g0, _⟩, _⟩ := each0 0 (by omega)
      simpa [Addr.add] using World.cell?_spot g0
    subst hspot
    have e : ∀ i j : Nat, ((⟨b, off, none⟩ : Addr).add (i * 6)).add j = ⟨b, off + i * 6 + j, none⟩ := fun i j => by
      rw [Addr.add_mid, Addr.add_mid]
    have each : ∀ i : Fin n, ∃ o : OpP, (W.cell? ⟨b, off + i.val * 6, none⟩ = some (.int .i64 o.1) ∧ W.cell? ⟨b, off + i.val * 6 + 1, none⟩ = some (.string o.2.1) ∧ W.cell? ⟨b, off + i.val * 6 + 2, none⟩ = some (.string o.2.2.1) ∧ W.cell? ⟨b, off + i.val * 6 + 3, none⟩ = some (.int .i64 o.2.2.2.1) ∧ W.cell? ⟨b, off + i.val * 6 + 4, none⟩ = some (.int .i64 o.2.2.2.2.1) ∧ W.cell? ⟨b, off + i.val * 6 + 5, none⟩ = some (.int .i64 o.2.2.2.2.2)) ∧ (o.2.1.size ≤ 9223372036854775807 ∧ o.2.2.1.size ≤ 9223372036854775807) := fun i => by
      obtain ⟨o, ⟨h0, h1, h2, h3, h4, h5⟩, hw⟩ := each0 i.val i.isLt
      rw [e] at h0 h1 h2 h3 h4 h5
      exact ⟨o, ⟨h0, h1, h2, h3, h4, h5⟩, hw⟩
    have hL : (List.ofFn fun i => Classical.choose (each i)).length = n := List.length_ofFn
    refine ⟨some ⟨b, off, none⟩, List.ofFn fun i => Classical.choose (each i), c, by rw [hL], fun _ => ⟨b, off, rfl, ?_, ?_⟩, fun h => (by cases h), by rw [hL]; exact hl, ?_, .inr ⟨_, _, hx.1, by rw [hL]; simp⟩⟩
    · obtain ⟨o, ⟨h0, _⟩, _⟩ := each ⟨0, by omega⟩
      exact block_lt_of_cell h0
    · intro j v hv
      have hj := (List.getElem?_eq_some_iff.1 hv).1
      rw [flatsOpP_len, hL] at hj
      have hq : j / 6 < n := by omega
      obtain ⟨⟨h0, h1, h2, h3, h4, h5⟩, _⟩ := Classical.choose_spec (each ⟨j / 6, hq⟩)
      obtain ⟨g0, g1, g2, g3, g4, g5⟩ := flatsOpP_at (List.ofFn fun i => Classical.choose (each i)) (j / 6) (by rw [hL]; exact hq)
      rw [List.getElem_ofFn] at g0 g1 g2 g3 g4 g5
      have hr : j = 6 * (j / 6) ∨ j = 6 * (j / 6) + 1 ∨ j = 6 * (j / 6) + 2 ∨ j = 6 * (j / 6) + 3 ∨ j = 6 * (j / 6) + 4 ∨ j = 6 * (j / 6) + 5 := by omega
      rcases hr with hr | hr | hr | hr | hr | hr
      · rw [hr, g0] at hv
        injection hv with hv
        subst hv
        rw [show off + j = off + j / 6 * 6 by omega]
        exact h0
      · rw [hr, g1] at hv
        injection hv with hv
        subst hv
        rw [show off + j = off + j / 6 * 6 + 1 by omega]
        exact h1
      · rw [hr, g2] at hv
        injection hv with hv
        subst hv
        rw [show off + j = off + j / 6 * 6 + 2 by omega]
        exact h2
      · rw [hr, g3] at hv
        injection hv with hv
        subst hv
        rw [show off + j = off + j / 6 * 6 + 3 by omega]
        exact h3
      · rw [hr, g4] at hv
        injection hv with hv
        subst hv
        rw [show off + j = off + j / 6 * 6 + 4 by omega]
        exact h4
      · rw [hr, g5] at hv
        injection hv with hv
        subst hv
        rw [show off + j = off + j / 6 * 6 + 5 by omega]
        exact h5
    · intro x hx
      obtain ⟨i, rfl⟩ := List.mem_ofFn.1 hx
      exact (Classical.choose_spec (each i)).2
end
theorem factOpP : (Tryz.prog.info? 26).map (fun i => (i.zero, i.size, i.bytes)) = some (some (.agg #[.int .i64 0, .string ⟨#[]⟩, .string ⟨#[]⟩, .int .i64 0, .int .i64 0, .int .i64 0]), 6, 64) := by kernel_rfl
/-- a row of the call's own -/
def OwnOpP (w : World) (base : Nat) (v : Value) (L : List OpP) : Prop := w.ownsRow base 26 6 v L.length (flatsOpP L)
theorem OwnOpP.on {w W : World} {B : Nat} {v : Value} {L : List OpP} (h : OwnOpP w B v L) (hb : Below w.heap.size w W) : OwnOpP W B v L :=
  World.ownsRow.kept (row := none) h ⟨hb.os, hb.tape, hb.output, hb.size, fun k hk _ => hb.block k hk⟩ (by
    rcases h.2 with ⟨rfl, _⟩ | ⟨g, c, cur, rfl, _⟩
    · exact .inl rfl
    · exact .inr (by simp [Value.ownBlock]))
theorem OwnOpP.less {w : World} {B B' : Nat} {v : Value} {L : List OpP} (h : OwnOpP w B v L) (hB : B' ≤ B) : OwnOpP w B' v L := by
  refine ⟨h.1, ?_⟩
  rcases h.2 with h | ⟨g, c, cur, h1, h2, h3⟩
  · exact .inl h
  · exact .inr ⟨g, c, cur, h1, Nat.le_trans hB h2, h3⟩
theorem OwnOpP.form {w : World} {B : Nat} {v : Value} {L : List OpP} (h : OwnOpP w B v L) : ∃ A c, v = .slice A L.length c ∧ RowOpP w A L ∧ (A = none → L = []) := by
  rcases h.2 with ⟨rfl, h0⟩ | ⟨g, c, cur, rfl, hB, hh, hc, hm, hcs, ht⟩
  · have : L = [] := List.eq_nil_of_length_eq_zero h0
    subst this
    exact ⟨none, 0, rfl, RowOpP.nil, fun _ => rfl⟩
  · refine ⟨_, c, rfl, fun hn => ⟨g, 0, rfl, heapLt hh, fun j v hv => ?_⟩, fun e => by cases e⟩
    have := World.ownsRow.cells (g := g) h rfl j v hv
    rwa [Addr.add_mid] at this
theorem RowOpP.range {w : World} {a : Addr} {L : List OpP} (hr : RowOpP w (some a) L) : ∀ j u, (flatsOpP L)[j]? = some u → w.cell? (a.add j) = some u := fun j u hu => by
  have hne : L ≠ [] := by
    intro e; subst e; simp [flatsOpP] at hu
  obtain ⟨b, o, e, _, hra⟩ := hr hne
  injection e with e
  subst e
  rw [Addr.add_mid]
  exact hra j u hu
/-- to a row that is full -/
theorem appendOpP_full (w : World) (A : Option Addr) (L M : List OpP) (hr : RowOpP w A L) (hA : A = none → L = []) (a : Addr) (c : Nat) (hm : RowOpP w (some a) M) (hM : M ≠ []) (hl : (L.length + M.length) * 64 ≤ 140737488355328) :
    ∃ v' w', (Builtin.append_ #[22, 22] 22 #[.slice A L.length L.length, .slice (some a) M.length c]).run Tryz.prog w = .ok v' w' ∧ OwnOpP w' w.heap.size v' (L ++ M) ∧ w.grownBy w' none := by
  obtain ⟨i0, hi, hz0, hz1, hz2⟩ := info_parts factOpP
  have hMl : 0 < M.length := List.length_pos_iff.2 hM
  have e : OwnOpP = fun w base v L => w.ownsRow base 26 6 v L.length (flatsOpP L) := rfl
  rw [e]
  simp only [flatsOpP_append, List.length_append]
  cases A with
  | none =>
    obtain rfl := hA rfl
    obtain ⟨v', w', h1, h2, h3, _⟩ := run_append_own (P := Tryz.prog) w w.heap.size 22 22 26 i0 _ 6 64 Tryz.underlying22 hi hz0 hz1 hz2 rfl (by decide) (.slice none 0 0) 0 [] (World.ownsRow_nil w _ _ 6) a M.length c (flatsOpP M) (by rw [flatsOpP_len]; omega) hm.range (flatsOpP_one M) (by unfold maxLen; omega) (by simpa using hl) (Nat.le_refl _)
    exact ⟨v', w', h1, h2, h3⟩
  | some b =>
    obtain ⟨v', w', h1, h2, h3⟩ := run_append_arg_grows (P := Tryz.prog) w 22 22 26 i0 _ 6 64 Tryz.underlying22 hi hz0 hz1 hz2 rfl (by decide) b L.length L.length (flatsOpP L) (by rw [flatsOpP_len]; omega) hr.range a M.length c (flatsOpP M) (by rw [flatsOpP_len]; omega) hm.range (by omega) (by unfold maxLen; omega) hl
    exact ⟨v', w', h1, h2, h3⟩
theorem wp_appendOpP_full (w : World) {o : Oper} {a : Act} {K : Act → World → Prop} {Q : Exit → Act → World → Prop} (s x : Operand)
    (ho : o.op = .call { callee := .builtin .append, args := #[s, x], argTypes := #[22, 22] }) (hty : o.type = 22) (A : Option Addr) (L : List OpP) (hs : a.eval s = .slice A L.length L.length) (hr : RowOpP w A L) (hA : A = none → L = [])
    (p : Addr) (n c : Nat) (M : List OpP) (hx : a.eval x = .slice (some p) n c) (hn : M.length = n) (hm : RowOpP w (some p) M) (hM : M ≠ []) (hl : (L.length + M.length) * 64 ≤ 140737488355328)
    (h : ∀ A' c' w', RowOpP w' A' (L ++ M) → Below w.heap.size w w' → K (a.put o.dst (.slice A' (L.length + n) c')) w') : o.wp Tryz.prog a w K Q := by
  subst hn
  obtain ⟨v', w', hrun, h2, h3⟩ := appendOpP_full w A L M hr hA p c hm hM hl
  obtain ⟨A', c', rfl, hr', _⟩ := h2.form
  rw [List.length_append] at hrun
  have hb : Below w.heap.size w w' := (Below.refl _ _).grown h3 (Nat.le_refl _) (by simp)
  unfold Oper.wp execOp
  simp only [ho, hty, resolve, invoke, builtin, Sem.run_bind, Sem.run_pure, Result.andThen_ok, List.map_toArray, List.map_cons, List.map_nil, hs, hx, hrun]
  exact h A' c' w' hr' hb
end Go.Proofs.YtgljajoknmgoeaaGreat
