/- Rates in a row, as they come in. Rates: not more than are looked at. -/
import Derived.Test.YtlnpflfkkjcopaaRtOpen
import Derived.Test.YtlnpflfkkjcopaaRtJ
import Derived.SizedLaws
namespace Go.Proofs.Ytlnpflfkkjcopaa
open Go.ChangeShapes Go.WideShapes Go.ChangeAt Go.RowKit Go.Joins Go.Deep
set_option maxRecDepth 100000

/-- a rate: its state, its category, its span -/
abbrev Rt := ByteArray × Int × Sp
def flatR (r : Rt) : List Value := [.string r.1, .int .i64 r.2.1, .int .i64 r.2.2.1, .int .i64 r.2.2.2.1, .int .i64 r.2.2.2.2]
def flats (L : List Rt) : List Value := L.flatMap flatR
theorem flats_len (L : List Rt) : (flats L).length = 5 * L.length := by
  induction L with
  | nil => rfl
  | cons p L ih =>
    have e : flats (p :: L) = flatR p ++ flats L := rfl
    rw [e, List.length_append, ih]
    simp [flatR]
    omega
theorem flats_append (L M : List Rt) : flats (L ++ M) = flats L ++ flats M := List.flatMap_append
theorem flats_one (M : List Rt) : ∀ u ∈ flats M, u.oneCell' = true := by
  intro u hu
  obtain ⟨p, _, hp⟩ := List.mem_flatMap.1 hu
  simp only [flatR, List.mem_cons, List.not_mem_nil, or_false] at hp
  rcases hp with rfl | rfl | rfl | rfl | rfl <;> rfl
theorem flats_at (L : List Rt) : ∀ (i : Nat) (h : i < L.length), (flats L)[5 * i]? = some (.string L[i].1) ∧ (flats L)[5 * i + 1]? = some (.int .i64 L[i].2.1) ∧ (flats L)[5 * i + 2]? = some (.int .i64 L[i].2.2.1) ∧ (flats L)[5 * i + 3]? = some (.int .i64 L[i].2.2.2.1) ∧ (flats L)[5 * i + 4]? = some (.int .i64 L[i].2.2.2.2) := by
  induction L with
  | nil => intro i h; simp at h
  | cons p L ih =>
    intro i h
    have e : flats (p :: L) = flatR p ++ flats L := rfl
    rw [e]
    cases i with
    | zero => exact ⟨rfl, rfl, rfl, rfl, rfl⟩
    | succ i =>
      obtain ⟨h0, h1, h2, h3, h4⟩ := ih i (by simpa using h)
      have hl : (flatR p).length = 5 := rfl
      refine ⟨?_, ?_, ?_, ?_, ?_⟩
      · rw [List.getElem?_append_right (by rw [hl]; omega), hl, show 5 * (i + 1) - 5 = 5 * i by omega]; simpa using h0
      · rw [List.getElem?_append_right (by rw [hl]; omega), hl, show 5 * (i + 1) + 1 - 5 = 5 * i + 1 by omega]; simpa using h1
      · rw [List.getElem?_append_right (by rw [hl]; omega), hl, show 5 * (i + 1) + 2 - 5 = 5 * i + 2 by omega]; simpa using h2
      · rw [List.getElem?_append_right (by rw [hl]; omega), hl, show 5 * (i + 1) + 3 - 5 = 5 * i + 3 by omega]; simpa using h3
      · rw [List.getElem?_append_right (by rw [hl]; omega), hl, show 5 * (i + 1) + 4 - 5 = 5 * i + 4 by omega]; simpa using h4
/-- at that address the rates lie, one behind the other; of none nothing is asked -/
def RowR (w : World) (A : Option Addr) (L : List Rt) : Prop :=
  L ≠ [] → ∃ b o, A = some ⟨b, o, none⟩ ∧ b < w.heap.size ∧ w.rangeAt b o (flats L)
theorem RowR.on {w W : World} {A : Option Addr} {L : List Rt} (h : RowR w A L) (hb : Below w.heap.size w W) : RowR W A L := fun hn => by
  obtain ⟨b, o, e, hl, hr⟩ := h hn
  exact ⟨b, o, e, Nat.lt_of_lt_of_le hl hb.size, fun j v hv => cell_on hb (hr j v hv)⟩
theorem RowR.nil {w : World} {A : Option Addr} : RowR w A [] := fun h => absurd rfl h
theorem RowR.at_ {w : World} {A : Option Addr} {L : List Rt} (h : RowR w A L) (i : Nat) (hi : i < L.length) : ∃ b o, A = some ⟨b, o, none⟩ ∧ b < w.heap.size ∧
    w.cell? ⟨b, o + i * 5, none⟩ = some (.string L[i].1) ∧ w.cell? ⟨b, o + i * 5 + 1, none⟩ = some (.int .i64 L[i].2.1) ∧ w.cell? ⟨b, o + i * 5 + 2, none⟩ = some (.int .i64 L[i].2.2.1) ∧ w.cell? ⟨b, o + i * 5 + 3, none⟩ = some (.int .i64 L[i].2.2.2.1) ∧ w.cell? ⟨b, o + i * 5 + 4, none⟩ = some (.int .i64 L[i].2.2.2.2) := by
  obtain ⟨b, o, e, hl, hr⟩ := h (by intro h0; subst h0; simp at hi)
  obtain ⟨h0, h1, h2, h3, h4⟩ := flats_at L i hi
  have g0 := hr _ _ h0
  have g1 := hr _ _ h1
  have g2 := hr _ _ h2
  have g3 := hr _ _ h3
  have g4 := hr _ _ h4
  rw [← Nat.add_assoc] at g1 g2 g3 g4
  rw [Nat.mul_comm 5 i] at g0 g1 g2 g3 g4
  exact ⟨b, o, e, hl, g0, g1, g2, g3, g4⟩
theorem cellsRate : Try.prog.cellsOf 56 = 5 := by kernel_rfl
theorem cellsRs : Try.prog.cellsOf 29 = 3 := by kernel_rfl
theorem bytesRate : Try.prog.bytesOf 56 = 48 := by kernel_rfl
section
variable {H : Type} {enc : TypeId × Value → H} {W : World} {base : Nat} {sp : Nat → Bool} {held : Bool}
theorem rate_of {fuel : Nat} {cs : List Value} {x : DataW H × List MemPlace} (h : DataW.trod enc Try.prog W base sp held fuel 56 cs = some x) (hl : cs.length = 5) : ∃ o : Rt, cs = flatR o ∧ o.1.size ≤ 9223372036854775807 := by
  match cs, hl with
  | [c0, c1, c2, c3, c4], _ =>
    obtain ⟨y0, y1, y2, n, _, _, h0, h1, h2⟩ := trod_struct3 Try.underlying56 h
    have hi : Try.prog.cellsOf 3 = 1 := by kernel_rfl
    have hs : Try.prog.cellsOf 9 = 1 := by kernel_rfl
    obtain ⟨s, e0, _, w0⟩ := DataW.trod_string Try.underlying9 h0
    obtain ⟨m, e1, _, _⟩ := DataW.trod_int Try.underlying3 h1
    rw [hs] at e0
    rw [hi] at e1
    rw [cellsRs] at h2
    obtain ⟨p, hp⟩ := rspan_of h2 (by simp)
    simp [flatP] at e0 e1 hp
    obtain ⟨rfl, rfl, rfl⟩ := hp
    subst e0 e1
    exact ⟨(s, m, p), rfl, w0⟩
theorem open_rate {r : Reach} {b0 : Nat} {v : Value} {d : DataW H} {p : List MemPlace} (hv : Value.okWide Try.prog W r b0 56 v)
    (h : DataW.Trod enc Try.prog W base sp held 56 v d p) : ∃ x : Rt, v = .agg #[.string x.1, .int .i64 x.2.1, .int .i64 x.2.2.1, .int .i64 x.2.2.2.1, .int .i64 x.2.2.2.2] ∧ x.1.size ≤ 9223372036854775807 := by
  obtain ⟨cs, rfl, hsz⟩ := okWide_struct Try.underlying56 hv
  obtain ⟨fuel, hf⟩ := h
  obtain ⟨o, ho, hw⟩ := rate_of (cs := cs.toList) (by simpa [Value.cells] using hf) (by rw [Array.length_toList, hsz, cellsRate])
  refine ⟨o, ?_, hw⟩
  congr 1
  apply Array.ext'
  rw [ho]
  rfl
theorem open_rates {r : Reach} {b0 : Nat} {v : Value} {d : DataW H} {p : List MemPlace} (hv : Value.okWide Try.prog W r b0 49 v) (h : DataW.Trod enc Try.prog W base (fun _ => true) held 49 v d p) :
    ∃ (A : Option Addr) (L : List Rt) (c : Nat), v = .slice A L.length c ∧ RowR W A L ∧ (A = none → L = [] ∧ c = 0) ∧ L.length ≤ c ∧ (∀ x ∈ L, x.1.size ≤ 9223372036854775807) ∧ (d = .nil ∧ L = [] ∨ ∃ els spr, d = .slice els spr ∧ els.length = L.length) := by
  obtain ⟨a, n, c, rfl⟩ := okWide_slice Try.underlying49 hv
  obtain ⟨fuel, hf⟩ := h
  rcases open_slice Try.underlying49 (by simpa [Value.cells] using hf) with ⟨hcs, hx⟩ | ⟨y, len, cap, m, k, D, Pl, hcs, _, hl, hm, hm', hx, hi⟩
  · simp at hcs hx
    obtain ⟨rfl, rfl, rfl⟩ := hcs
    exact ⟨none, [], 0, rfl, RowR.nil, fun _ => ⟨rfl, rfl⟩, Nat.le_refl _, fun x hx => absurd hx (by simp), .inl ⟨hx.1, rfl⟩⟩
  · simp only [Prod.mk.injEq] at hx
    simp at hcs
    obtain ⟨rfl, rfl, rfl⟩ := hcs
    have hnm : n ≤ m := by
      rw [hm']
      simpa using hl
    rw [cellsRate] at hi
    by_cases hz : n = 0
    · subst hz
      exact ⟨some y, [], c, rfl, RowR.nil, fun h => (by cases h), Nat.zero_le _, fun x hx => absurd hx (by simp), .inr ⟨_, _, hx.1, by simp⟩⟩
    have each0 : ∀ i : Nat, i < n → ∃ o : Rt, (W.cell? ((y.add (i * 5)).add 0) = some (.string o.1) ∧ W.cell? ((y.add (i * 5)).add 1) = some (.int .i64 o.2.1) ∧ W.cell? ((y.add (i * 5)).add 2) = some (.int .i64 o.2.2.1) ∧ W.cell? ((y.add (i * 5)).add 3) = some (.int .i64 o.2.2.2.1) ∧ W.cell? ((y.add (i * 5)).add 4) = some (.int .i64 o.2.2.2.2)) ∧ o.1.size ≤ 9223372036854775807 := fun i hin => by
      obtain ⟨cs', hc, ht⟩ := hi i (by omega)
      obtain ⟨_, hcl, hat⟩ := World.cells?_some hc
      obtain ⟨o, rfl, hw⟩ := rate_of ht hcl
      exact ⟨o, ⟨hat 0 (by decide), hat 1 (by decide), hat 2 (by decide), hat 3 (by decide), hat 4 (by decide)⟩, hw⟩
    obtain ⟨b, off, spot⟩ := y
    have hspot : spot = none := by
      obtain ⟨o, ⟨g0, _⟩, _⟩ := each0 0 (by omega)
      simpa [Addr.add] using World.cell?_spot g0
    subst hspot
    have e : ∀ i j : Nat, ((⟨b, off, none⟩ : Addr).add (i * 5)).add j = ⟨b, off + i * 5 + j, none⟩ := fun i j => by
      rw [Addr.add_mid, Addr.add_mid]
    have each : ∀ i : Fin n, ∃ o : Rt, (W.cell? ⟨b, off + i.val * 5, none⟩ = some (.string o.1) ∧ W.cell? ⟨b, off + i.val * 5 + 1, none⟩ = some (.int .i64 o.2.1) ∧ W.cell? ⟨b, off + i.val * 5 + 2, none⟩ = some (.int .i64 o.2.2.1) ∧ W.cell? ⟨b, off + i.val * 5 + 3, none⟩ = some (.int .i64 o.2.2.2.1) ∧ W.cell? ⟨b, off + i.val * 5 + 4, none⟩ = some (.int .i64 o.2.2.2.2)) ∧ o.1.size ≤ 9223372036854775807 := fun i => by
      obtain ⟨o, ⟨h0, h1, h2, h3, h4⟩, hw⟩ := each0 i.val i.isLt
      rw [e] at h0 h1 h2 h3 h4
      exact ⟨o, ⟨h0, h1, h2, h3, h4⟩, hw⟩
    have hL : (List.ofFn fun i => Classical.choose (each i)).length = n := List.length_ofFn
    refine ⟨some ⟨b, off, none⟩, List.ofFn fun i => Classical.choose (each i), c, by rw [hL], fun _ => ⟨b, off, rfl, ?_, ?_⟩, fun h => (by cases h), by rw [hL]; exact hl, ?_, .inr ⟨_, _, hx.1, by rw [hL]; simp⟩⟩
    · obtain ⟨o, ⟨h0, _⟩, _⟩ := each ⟨0, by omega⟩
      exact block_lt_of_cell h0
    · intro j v hv
      have hj := (List.getElem?_eq_some_iff.1 hv).1
      rw [flats_len, hL] at hj
      have hq : j / 5 < n := by omega
      obtain ⟨⟨h0, h1, h2, h3, h4⟩, _⟩ := Classical.choose_spec (each ⟨j / 5, hq⟩)
      obtain ⟨g0, g1, g2, g3, g4⟩ := flats_at (List.ofFn fun i => Classical.choose (each i)) (j / 5) (by rw [hL]; exact hq)
      rw [List.getElem_ofFn] at g0 g1 g2 g3 g4
      have h5 : j = 5 * (j / 5) ∨ j = 5 * (j / 5) + 1 ∨ j = 5 * (j / 5) + 2 ∨ j = 5 * (j / 5) + 3 ∨ j = 5 * (j / 5) + 4 := by omega
      rcases h5 with h5 | h5 | h5 | h5 | h5
      · rw [h5, g0] at hv
        injection hv with hv
        subst hv
        rw [show off + j = off + j / 5 * 5 by omega]
        exact h0
      · rw [h5, g1] at hv
        injection hv with hv
        subst hv
        rw [show off + j = off + j / 5 * 5 + 1 by omega]
        exact h1
      · rw [h5, g2] at hv
        injection hv with hv
        subst hv
        rw [show off + j = off + j / 5 * 5 + 2 by omega]
        exact h2
      · rw [h5, g3] at hv
        injection hv with hv
        subst hv
        rw [show off + j = off + j / 5 * 5 + 3 by omega]
        exact h3
      · rw [h5, g4] at hv
        injection hv with hv
        subst hv
        rw [show off + j = off + j / 5 * 5 + 4 by omega]
        exact h4
    · intro x hx
      obtain ⟨i, rfl⟩ := List.mem_ofFn.1 hx
      exact (Classical.choose_spec (each i)).2
end
end Go.Proofs.Ytlnpflfkkjcopaa

namespace Go.Proofs.Ytlnpflfkkjcopaa
open Go.RowKit
set_option maxRecDepth 100000

def shortB (L : List Rt) : Bool := L.all (fun r => decide (r.1.size ≤ 100))
def lightB (L : List Rt) (s : ByteArray) : Bool := shortB L && (decide (L.length ≤ 60) && decide (s.size ≤ 100))
theorem short_next {L : List Rt} {k : Nat} (hk : k < L.length) (h : shortB (L.take k) = true) (hs : L[k].1.size ≤ 100) : shortB (L.take (k + 1)) = true := by
  rw [List.take_succ_eq_append_getElem hk]
  unfold shortB at *
  rw [List.all_append, h]
  simp [hs]
theorem short_not {L : List Rt} {k : Nat} (hk : k < L.length) (hs : ¬ L[k].1.size ≤ 100) : shortB L = false := by
  unfold shortB
  rw [List.all_eq_false]
  exact ⟨L[k], List.getElem_mem hk, by simpa using hs⟩
set_option maxHeartbeats 1000000 in
theorem light_walk (A : Option Addr) (c : Nat) (L : List Rt) (s : ByteArray) (q d : Int) (w : World) (hr : RowR w A L) (hl : L.length ≤ 4000000000000000000) (V : Bool) (hV : lightB L s = V) :
    Calls Try.prog 22 #[.slice A L.length c, .agg #[.string s, .int .i64 q, .int .i64 d]] w fun e w' => e = .returned (.bool V) ∧ Below w.heap.size w w' := by
  have HI := Lib.hid (And.intro (heap_alloc_new w (.cells #[.string s, .int .i64 q, .int .i64 d] 51)) (below_alloc w (.cells #[.string s, .int .i64 q, .int .i64 d] 51)))
  have HR := Lib.hid hr
  have HV := Lib.hid hV
  clear hr hV
  go_enter Try.func22, Try.ntmps22
  go_wp2
  go_loopw [9] (fun i wr => ∃ (k : Nat), k ≤ L.length ∧ i = .int .i64 k ∧ Hid (shortB (L.take k) = true) ∧ Hid (wr.heap[w.heap.size]? = some (.cells #[.string s, .int .i64 q, .int .i64 d] 51 (0, 0)) ∧ Below w.heap.size w wr)) (fun i _ => L.length - (intOf i).toNat)
  case atStart => exact ⟨0, Nat.zero_le _, rfl, Lib.hid rfl, HI⟩
  case round =>
    clear HI
    obtain ⟨k, hk, rfl, HS, HI⟩ := hrel
    by_cases hlt : k < L.length
    · have hlt' : (k : Int) < (L.length : Int) := by omega
      obtain ⟨b, o, rfl, hbl, y0, y1, y2, y3, y4⟩ := (HR.out.on HI.out.2).at_ k hlt
      have HB1 := Lib.hid (fun o => below_alloc wr o)
      by_cases hs : L[k].1.size ≤ 100
      · have hs' : (L[k].1.size : Int) ≤ 100 := by omega
        have HN := Lib.hid (short_next hlt HS.out hs)
        clear hs hbl
        go_wp2
        go_roundw
        case rel => exact ⟨k + 1, by omega, by go_num, HN, Lib.hid ⟨heap_on (HB1.out _) HI.out.1, below_then HI.out.2 (HB1.out _)⟩⟩
        case measure => simp [intOf]; omega
      · have hs' : (100 : Int) < (L[k].1.size : Int) := by omega
        have HN : Hid (lightB L s = false) := Lib.hid (by unfold lightB; rw [short_not hlt hs]; rfl)
        clear hs hbl
        go_wp2
        go_ret
        exact ⟨by rw [← HV.out, HN.out]; rfl, below_then HI.out.2 (HB1.out _)⟩
    · obtain rfl : k = L.length := by omega
      have hS : shortB L = true := by have := HS.out; rwa [List.take_length] at this
      have a0 := cell_of_row wr w.heap.size 0 _ _ _ HI.out.1
      simp only [List.getElem?_toArray, List.getElem?_cons_zero] at a0
      have e : lightB L s = (decide (L.length ≤ 60) && decide (s.size ≤ 100)) := by unfold lightB; rw [hS]; rfl
      rw [HV.out] at e
      clear HS hS HV
      by_cases h60 : L.length ≤ 60
      · have i60 : (L.length : Int) ≤ 60 := by omega
        rw [decide_eq_true h60, Bool.true_and] at e
        by_cases h100 : s.size ≤ 100
        · have i100 : (s.size : Int) ≤ 100 := by omega
          rw [decide_eq_true h100] at e
          subst e
          clear h60 h100
          go_wp2
          go_ret
          exact ⟨ret_bool (by simp), HI.out.2⟩
        · have i100 : ¬ (s.size : Int) ≤ 100 := by omega
          rw [decide_eq_false h100] at e
          subst e
          clear h60 h100
          go_wp2
          go_ret
          exact ⟨ret_bool (by simp), HI.out.2⟩
      · have i60 : ¬ (L.length : Int) ≤ 60 := by omega
        rw [decide_eq_false h60, Bool.false_and] at e
        subst e
        clear h60
        go_wp2
        go_ret
        exact ⟨rfl, HI.out.2⟩
theorem code_light (A : Option Addr) (c : Nat) (L : List Rt) (s : ByteArray) (q d : Int) (w : World) (hr : RowR w A L) (hl : L.length ≤ 4000000000000000000) :
    Calls Try.prog 22 #[.slice A L.length c, .agg #[.string s, .int .i64 q, .int .i64 d]] w fun e w' => e = .returned (.bool (lightB L s)) ∧ Below w.heap.size w w' :=
  light_walk A c L s q d w hr hl _ rfl
end Go.Proofs.Ytlnpflfkkjcopaa
