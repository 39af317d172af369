/- Lines, documents and commands, as they come in. -/
import Derived.Test.YtjanhgekocpobaaLawEndB
import Derived.Lib.SmallJoins
import Derived.SizedLaws
import Derived.ArgAppend
import Derived.Test.YtjanhgekocpobaaRegion
import Derived.Deep.MidRow
import Derived.Shelf.RegionOpen
import Derived.Laws.StructEq
namespace Go.Proofs.Ytjanhgekocpobaa
open Go.ChangeShapes Go.WideShapes Go.ChangeAt Go.RowKit Go.Joins Go.Deep
set_option maxRecDepth 100000
/-- no part of what came in is larger than the reach -/
def Fits {H : Type} (P : Program) (t : TypeId) (d : DataW H) : Prop := ∀ n ∈ d.weights P t, n ≤ reachBytes
theorem Fits.part {H : Type} {P : Program} {t : TypeId} {fs : Array Field} {ds : List (DataW H)} (hu : P.underlying t = some (.struct fs)) (h : Fits P t (.agg ds)) {i : Nat} {f : Field} {d : DataW H} (hf : fs[i]? = some f) (hd : ds[i]? = some d) : Fits P f.type d := fun n hn =>
  h n (by
    simp only [DataW.weights, hu]
    exact DataW.weights_mem_each (j := i) (by simp [hf]) hd n hn)
theorem Fits.text {H : Type} {P : Program} {t : TypeId} {s : ByteArray} (h : Fits (H := H) P t (.lit (.string s.data.toList))) : s.size ≤ 140737488351232 := by
  have h1 := h s.data.toList.length (by simp [DataW.weights])
  have h2 : reachBytes = 140737488351232 := rfl
  rw [h2, Array.length_toList] at h1
  exact h1
theorem weightsAll_mem {H : Type} {P : Program} {e : TypeId} : ∀ {ds : List (DataW H)} {d : DataW H}, d ∈ ds → ∀ n ∈ d.weights P e, n ∈ DataW.weightsAll P e ds
  | d0 :: r, d, hd, n, hn => by
    simp only [DataW.weightsAll, List.mem_append]
    rcases List.mem_cons.1 hd with rfl | h
    · exact .inl hn
    · exact .inr (weightsAll_mem h n hn)
  | [], _, hd, _, _ => by simp at hd
theorem Fits.item {H : Type} {P : Program} {t e : TypeId} {ds sp : List (DataW H)} {d : DataW H} (hu : P.underlying t = some (.slice e)) (h : Fits P t (.slice ds sp)) (hd : d ∈ ds) : Fits P e d := fun n hn =>
  h n (by
    simp only [DataW.weights, hu, List.mem_cons, List.mem_append]
    exact .inr (.inl (weightsAll_mem hd n hn)))
theorem Fits.room {H : Type} {P : Program} {t e : TypeId} {ds sp : List (DataW H)} (hu : P.underlying t = some (.slice e)) (h : Fits P t (.slice ds sp)) : ds.length * P.bytesOf e ≤ 140737488351232 := by
  have h1 := h ((ds.length + sp.length) * P.bytesOf e) (by simp [DataW.weights, hu])
  have h2 : reachBytes = 140737488351232 := rfl
  rw [h2, Nat.add_mul] at h1
  omega
theorem trod_struct9 {P : Program} {H : Type} {enc : TypeId × Value → H} {w : World} {base : Nat} {spare : Nat → Bool} {held : Bool} {t : TypeId} {f0 f1 f2 f3 f4 f5 f6 f7 f8 : Field} {fuel : Nat} {cs : List Value} {x : DataW H × List MemPlace} (ht : P.underlying t = some (.struct #[f0, f1, f2, f3, f4, f5, f6, f7, f8])) (h : DataW.trod enc P w base spare held fuel t cs = some x) :
    ∃ y0 y1 y2 y3 y4 y5 y6 y7 y8 n, (Fits P t x.1 → Fits P f0.type y0.1 ∧ Fits P f1.type y1.1 ∧ Fits P f2.type y2.1 ∧ Fits P f3.type y3.1 ∧ Fits P f4.type y4.1 ∧ Fits P f5.type y5.1 ∧ Fits P f6.type y6.1 ∧ Fits P f7.type y7.1 ∧ Fits P f8.type y8.1) ∧ cs.length = P.cellsOf t ∧ DataW.trod enc P w base spare held n f0.type ((cs.drop f0.offset).take (P.cellsOf f0.type)) = some y0 ∧ DataW.trod enc P w base spare held n f1.type ((cs.drop f1.offset).take (P.cellsOf f1.type)) = some y1 ∧ DataW.trod enc P w base spare held n f2.type ((cs.drop f2.offset).take (P.cellsOf f2.type)) = some y2 ∧ DataW.trod enc P w base spare held n f3.type ((cs.drop f3.offset).take (P.cellsOf f3.type)) = some y3 ∧ DataW.trod enc P w base spare held n f4.type ((cs.drop f4.offset).take (P.cellsOf f4.type)) = some y4 ∧ DataW.trod enc P w base spare held n f5.type ((cs.drop f5.offset).take (P.cellsOf f5.type)) = some y5 ∧ DataW.trod enc P w base spare held n f6.type ((cs.drop f6.offset).take (P.cellsOf f6.type)) = some y6 ∧ DataW.trod enc P w base spare held n f7.type ((cs.drop f7.offset).take (P.cellsOf f7.type)) = some y7 ∧ DataW.trod enc P w base spare held n f8.type ((cs.drop f8.offset).take (P.cellsOf f8.type)) = some y8 := by
  obtain ⟨xs, n, _, rfl, hl, hlen, hf⟩ := DataW.trod_struct ht h
  match xs, hlen with
  | [y0, y1, y2, y3, y4, y5, y6, y7, y8], _ => exact ⟨y0, y1, y2, y3, y4, y5, y6, y7, y8, n, fun hz => ⟨hz.part (i := 0) ht rfl rfl, hz.part (i := 1) ht rfl rfl, hz.part (i := 2) ht rfl rfl, hz.part (i := 3) ht rfl rfl, hz.part (i := 4) ht rfl rfl, hz.part (i := 5) ht rfl rfl, hz.part (i := 6) ht rfl rfl, hz.part (i := 7) ht rfl rfl, hz.part (i := 8) ht rfl rfl⟩, hl, by simpa using hf 0 f0 rfl, by simpa using hf 1 f1 rfl, by simpa using hf 2 f2 rfl, by simpa using hf 3 f3 rfl, by simpa using hf 4 f4 rfl, by simpa using hf 5 f5 rfl, by simpa using hf 6 f6 rfl, by simpa using hf 7 f7 rfl, by simpa using hf 8 f8 rfl⟩
abbrev LineV := Int × Int × ByteArray × ByteArray × ByteArray × Int × Bool × Int × Bool
def flatLineV (p : LineV) : List Value := [.int .i64 p.1, .int .i64 p.2.1, .string p.2.2.1, .string p.2.2.2.1, .string p.2.2.2.2.1, .int .i64 p.2.2.2.2.2.1, .bool p.2.2.2.2.2.2.1, .int .i64 p.2.2.2.2.2.2.2.1, .bool p.2.2.2.2.2.2.2.2]
def flatsLineV (L : List LineV) : List Value := L.flatMap flatLineV
theorem flatsLineV_len (L : List LineV) : (flatsLineV L).length = 9 * L.length := by
  induction L with
  | nil => rfl
  | cons p L ih =>
    have e : flatsLineV (p :: L) = flatLineV p ++ flatsLineV L := rfl
    rw [e, List.length_append, ih]
    simp [flatLineV]
    omega
theorem flatsLineV_append (L M : List LineV) : flatsLineV (L ++ M) = flatsLineV L ++ flatsLineV M := List.flatMap_append
theorem flatsLineV_one (M : List LineV) : ∀ u ∈ flatsLineV M, u.oneCell' = true := by
  intro u hu
  obtain ⟨p, _, hp⟩ := List.mem_flatMap.1 hu
  simp only [flatLineV, List.mem_cons, List.not_mem_nil, or_false] at hp
  rcases hp with rfl | rfl | rfl | rfl | rfl | rfl | rfl | rfl | rfl <;> rfl
theorem flatsLineV_at (L : List LineV) : ∀ (i : Nat) (h : i < L.length), (flatsLineV L)[9 * i]? = some (.int .i64 L[i].1) ∧ (flatsLineV L)[9 * i + 1]? = some (.int .i64 L[i].2.1) ∧ (flatsLineV L)[9 * i + 2]? = some (.string L[i].2.2.1) ∧ (flatsLineV L)[9 * i + 3]? = some (.string L[i].2.2.2.1) ∧ (flatsLineV L)[9 * i + 4]? = some (.string L[i].2.2.2.2.1) ∧ (flatsLineV L)[9 * i + 5]? = some (.int .i64 L[i].2.2.2.2.2.1) ∧ (flatsLineV L)[9 * i + 6]? = some (.bool L[i].2.2.2.2.2.2.1) ∧ (flatsLineV L)[9 * i + 7]? = some (.int .i64 L[i].2.2.2.2.2.2.2.1) ∧ (flatsLineV L)[9 * i + 8]? = some (.bool L[i].2.2.2.2.2.2.2.2) := by
  induction L with
  | nil => intro i h; simp at h
  | cons p L ih =>
    intro i h
    have e : flatsLineV (p :: L) = flatLineV p ++ flatsLineV L := rfl
    rw [e]
    cases i with
    | zero => exact ⟨rfl, rfl, rfl, rfl, rfl, rfl, rfl, rfl, rfl⟩
    | succ i =>
      obtain ⟨h0, h1, h2, h3, h4, h5, h6, h7, h8⟩ := ih i (by simpa using h)
      have hl : (flatLineV p).length = 9 := rfl
      refine ⟨?_, ?_, ?_, ?_, ?_, ?_, ?_, ?_, ?_⟩
      · rw [List.getElem?_append_right (by rw [hl]; omega), hl, show 9 * (i + 1) - 9 = 9 * i by omega]; simpa using h0
      · rw [List.getElem?_append_right (by rw [hl]; omega), hl, show 9 * (i + 1) + 1 - 9 = 9 * i + 1 by omega]; simpa using h1
      · rw [List.getElem?_append_right (by rw [hl]; omega), hl, show 9 * (i + 1) + 2 - 9 = 9 * i + 2 by omega]; simpa using h2
      · rw [List.getElem?_append_right (by rw [hl]; omega), hl, show 9 * (i + 1) + 3 - 9 = 9 * i + 3 by omega]; simpa using h3
      · rw [List.getElem?_append_right (by rw [hl]; omega), hl, show 9 * (i + 1) + 4 - 9 = 9 * i + 4 by omega]; simpa using h4
      · rw [List.getElem?_append_right (by rw [hl]; omega), hl, show 9 * (i + 1) + 5 - 9 = 9 * i + 5 by omega]; simpa using h5
      · rw [List.getElem?_append_right (by rw [hl]; omega), hl, show 9 * (i + 1) + 6 - 9 = 9 * i + 6 by omega]; simpa using h6
      · rw [List.getElem?_append_right (by rw [hl]; omega), hl, show 9 * (i + 1) + 7 - 9 = 9 * i + 7 by omega]; simpa using h7
      · rw [List.getElem?_append_right (by rw [hl]; omega), hl, show 9 * (i + 1) + 8 - 9 = 9 * i + 8 by omega]; simpa using h8
/-- at that address they lie, one behind the other; of none nothing is asked -/
def RowLineV (w : World) (A : Option Addr) (L : List LineV) : Prop :=
  L ≠ [] → ∃ b o, A = some ⟨b, o, none⟩ ∧ b < w.heap.size ∧ w.rangeAt b o (flatsLineV L)
theorem RowLineV.on {w W : World} {A : Option Addr} {L : List LineV} (h : RowLineV w A L) (hb : Below w.heap.size w W) : RowLineV W A L := fun hn => by
  obtain ⟨b, o, e, hl, hr⟩ := h hn
  exact ⟨b, o, e, Nat.lt_of_lt_of_le hl hb.size, fun j v hv => cell_on hb (hr j v hv)⟩
theorem RowLineV.nil {w : World} {A : Option Addr} : RowLineV w A [] := fun h => absurd rfl h
theorem RowLineV.at_ {w : World} {A : Option Addr} {L : List LineV} (h : RowLineV w A L) (i : Nat) (hi : i < L.length) : ∃ b o, A = some ⟨b, o, none⟩ ∧ b < w.heap.size ∧
    w.cell? ⟨b, o + i * 9, none⟩ = some (.int .i64 L[i].1) ∧ w.cell? ⟨b, o + i * 9 + 1, none⟩ = some (.int .i64 L[i].2.1) ∧ w.cell? ⟨b, o + i * 9 + 2, none⟩ = some (.string L[i].2.2.1) ∧ w.cell? ⟨b, o + i * 9 + 3, none⟩ = some (.string L[i].2.2.2.1) ∧ w.cell? ⟨b, o + i * 9 + 4, none⟩ = some (.string L[i].2.2.2.2.1) ∧ w.cell? ⟨b, o + i * 9 + 5, none⟩ = some (.int .i64 L[i].2.2.2.2.2.1) ∧ w.cell? ⟨b, o + i * 9 + 6, none⟩ = some (.bool L[i].2.2.2.2.2.2.1) ∧ w.cell? ⟨b, o + i * 9 + 7, none⟩ = some (.int .i64 L[i].2.2.2.2.2.2.2.1) ∧ w.cell? ⟨b, o + i * 9 + 8, none⟩ = some (.bool L[i].2.2.2.2.2.2.2.2) := by
  obtain ⟨b, o, e, hl, hr⟩ := h (by intro h0; subst h0; simp at hi)
  obtain ⟨h0, h1, h2, h3, h4, h5, h6, h7, h8⟩ := flatsLineV_at L i hi
  have g0 := hr _ _ h0
  have g1 := hr _ _ h1
  have g2 := hr _ _ h2
  have g3 := hr _ _ h3
  have g4 := hr _ _ h4
  have g5 := hr _ _ h5
  have g6 := hr _ _ h6
  have g7 := hr _ _ h7
  have g8 := hr _ _ h8
  rw [← Nat.add_assoc] at g1 g2 g3 g4 g5 g6 g7 g8
  rw [Nat.mul_comm 9 i] at g0 g1 g2 g3 g4 g5 g6 g7 g8
  exact ⟨b, o, e, hl, g0, g1, g2, g3, g4, g5, g6, g7, g8⟩
theorem boxLineV {W : World} {g : Nat} {p : LineV} {t : TypeId} (h : W.heap[g]? = some (.cells #[.int .i64 p.1, .int .i64 p.2.1, .string p.2.2.1, .string p.2.2.2.1, .string p.2.2.2.2.1, .int .i64 p.2.2.2.2.2.1, .bool p.2.2.2.2.2.2.1, .int .i64 p.2.2.2.2.2.2.2.1, .bool p.2.2.2.2.2.2.2.2] t (0, 0))) : RowLineV W (some ⟨g, 0, none⟩) [p] := fun _ => ⟨g, 0, rfl, heapLt h, fun j v hv => by
  match j with
  | 0 => simp [flatsLineV, flatLineV] at hv; subst hv; rw [cell_of_row W g 0 _ _ _ h]; rfl
  | 1 => simp [flatsLineV, flatLineV] at hv; subst hv; rw [cell_of_row W g 1 _ _ _ h]; rfl
  | 2 => simp [flatsLineV, flatLineV] at hv; subst hv; rw [cell_of_row W g 2 _ _ _ h]; rfl
  | 3 => simp [flatsLineV, flatLineV] at hv; subst hv; rw [cell_of_row W g 3 _ _ _ h]; rfl
  | 4 => simp [flatsLineV, flatLineV] at hv; subst hv; rw [cell_of_row W g 4 _ _ _ h]; rfl
  | 5 => simp [flatsLineV, flatLineV] at hv; subst hv; rw [cell_of_row W g 5 _ _ _ h]; rfl
  | 6 => simp [flatsLineV, flatLineV] at hv; subst hv; rw [cell_of_row W g 6 _ _ _ h]; rfl
  | 7 => simp [flatsLineV, flatLineV] at hv; subst hv; rw [cell_of_row W g 7 _ _ _ h]; rfl
  | 8 => simp [flatsLineV, flatLineV] at hv; subst hv; rw [cell_of_row W g 8 _ _ _ h]; rfl
  | j + 9 => simp [flatsLineV, flatLineV] at hv⟩
theorem cellsLineV {W : World} {g : Nat} {v0 v1 v2 v3 v4 v5 v6 v7 v8 : Value} {t : TypeId} (h : W.heap[g]? = some (.cells #[v0, v1, v2, v3, v4, v5, v6, v7, v8] t (0, 0))) : W.cell? ⟨g, 0, none⟩ = some v0 ∧ W.cell? ⟨g, 1, none⟩ = some v1 ∧ W.cell? ⟨g, 2, none⟩ = some v2 ∧ W.cell? ⟨g, 3, none⟩ = some v3 ∧ W.cell? ⟨g, 4, none⟩ = some v4 ∧ W.cell? ⟨g, 5, none⟩ = some v5 ∧ W.cell? ⟨g, 6, none⟩ = some v6 ∧ W.cell? ⟨g, 7, none⟩ = some v7 ∧ W.cell? ⟨g, 8, none⟩ = some v8 :=
  ⟨cell_of_row W g 0 _ _ _ h, cell_of_row W g 1 _ _ _ h, cell_of_row W g 2 _ _ _ h, cell_of_row W g 3 _ _ _ h, cell_of_row W g 4 _ _ _ h, cell_of_row W g 5 _ _ _ h, cell_of_row W g 6 _ _ _ h, cell_of_row W g 7 _ _ _ h, cell_of_row W g 8 _ _ _ h⟩
theorem cellsOfLineV : Try.prog.cellsOf 60 = 9 := by kernel_rfl
theorem bytesOfLineV : Try.prog.bytesOf 60 = 96 := by kernel_rfl
section
variable {H : Type} {enc : TypeId × Value → H} {W : World} {base : Nat} {sp : Nat → Bool} {held : Bool}
theorem ofLineV {fuel : Nat} {cs : List Value} {x : DataW H × List MemPlace} (h : DataW.trod enc Try.prog W base sp held fuel 60 cs = some x) (hz : Fits Try.prog 60 x.1) (hl : cs.length = 9) : ∃ o : LineV, cs = [.int .i64 o.1, .int .i64 o.2.1, .string o.2.2.1, .string o.2.2.2.1, .string o.2.2.2.2.1, .int .i64 o.2.2.2.2.2.1, .bool o.2.2.2.2.2.2.1, .int .i64 o.2.2.2.2.2.2.2.1, .bool o.2.2.2.2.2.2.2.2] ∧ (o.2.2.1.size ≤ 140737488351232 ∧ o.2.2.2.1.size ≤ 140737488351232 ∧ o.2.2.2.2.1.size ≤ 140737488351232) := by
  match cs, hl with
  | [c0, c1, c2, c3, c4, c5, c6, c7, c8], _ =>
    obtain ⟨y0, y1, y2, y3, y4, y5, y6, y7, y8, n, hzs, _, h0, h1, h2, h3, h4, h5, h6, h7, h8⟩ := trod_struct9 Try.underlying60 h
    obtain ⟨z0, z1, z2, z3, z4, z5, z6, z7, z8⟩ := hzs hz
    have hcint : Try.prog.cellsOf 3 = 1 := by kernel_rfl
    have hcstr : Try.prog.cellsOf 9 = 1 := by kernel_rfl
    have hcbool : Try.prog.cellsOf 4 = 1 := by kernel_rfl
    obtain ⟨q0, e0, _, _⟩ := DataW.trod_int Try.underlying3 h0
    rw [hcint] at e0
    obtain ⟨q1, e1, _, _⟩ := DataW.trod_int Try.underlying3 h1
    rw [hcint] at e1
    obtain ⟨q2, e2, d2, _⟩ := DataW.trod_string Try.underlying9 h2
    rw [hcstr] at e2
    rw [d2] at z2
    obtain ⟨q3, e3, d3, _⟩ := DataW.trod_string Try.underlying9 h3
    rw [hcstr] at e3
    rw [d3] at z3
    obtain ⟨q4, e4, d4, _⟩ := DataW.trod_string Try.underlying9 h4
    rw [hcstr] at e4
    rw [d4] at z4
    obtain ⟨q5, e5, _, _⟩ := DataW.trod_int Try.underlying3 h5
    rw [hcint] at e5
    obtain ⟨q6, e6, _⟩ := DataW.trod_bool Try.underlying4 h6
    rw [hcbool] at e6
    obtain ⟨q7, e7, _, _⟩ := DataW.trod_int Try.underlying3 h7
    rw [hcint] at e7
    obtain ⟨q8, e8, _⟩ := DataW.trod_bool Try.underlying4 h8
    rw [hcbool] at e8
    simp at e0 e1 e2 e3 e4 e5 e6 e7 e8
    subst e0 e1 e2 e3 e4 e5 e6 e7 e8
    exact ⟨(q0, q1, q2, q3, q4, q5, q6, q7, q8), rfl, ⟨z2.text, z3.text, z4.text⟩⟩
theorem openLineV {r : Reach} {b0 : Nat} {v : Value} {d : DataW H} {p : List MemPlace} (hv : Value.okWide Try.prog W r b0 60 v)
    (h : DataW.Trod enc Try.prog W base sp held 60 v d p) (hz : Fits Try.prog 60 d) : ∃ x : LineV, v = .agg #[.int .i64 x.1, .int .i64 x.2.1, .string x.2.2.1, .string x.2.2.2.1, .string x.2.2.2.2.1, .int .i64 x.2.2.2.2.2.1, .bool x.2.2.2.2.2.2.1, .int .i64 x.2.2.2.2.2.2.2.1, .bool x.2.2.2.2.2.2.2.2] ∧ (x.2.2.1.size ≤ 140737488351232 ∧ x.2.2.2.1.size ≤ 140737488351232 ∧ x.2.2.2.2.1.size ≤ 140737488351232) := by
  obtain ⟨cs, rfl, hsz⟩ := okWide_struct Try.underlying60 hv
  obtain ⟨fuel, hf⟩ := h
  obtain ⟨o, ho, hw⟩ := ofLineV (cs := cs.toList) (by simpa [Value.cells] using hf) hz (by rw [Array.length_toList, hsz, cellsOfLineV])
  refine ⟨o, ?_, hw⟩
  congr 1
  apply Array.ext'
  rw [ho]
/-- a row of them, wherever its slice lies -/
theorem manyLineV {fuel : Nat} {cs : List Value} {x : DataW H × List MemPlace} (h : DataW.trod enc Try.prog W base sp held fuel 27 cs = some x) (hz : Fits Try.prog 27 x.1) :
    ∃ (A : Option Addr) (L : List LineV) (c : Nat), cs = [.slice A L.length c] ∧ RowLineV W A L ∧ (A = none → L = [] ∧ c = 0) ∧ L.length ≤ c ∧ c ≤ maxLen ∧ (∀ x ∈ L, x.2.2.1.size ≤ 140737488351232 ∧ x.2.2.2.1.size ≤ 140737488351232 ∧ x.2.2.2.2.1.size ≤ 140737488351232) := by
  rcases open_slice Try.underlying27 h with ⟨hcs, _⟩ | ⟨y, n, c, m, k, D, Pl, hcs, _, hl, hm, hm', hx, hi⟩
  · exact ⟨none, [], 0, hcs, RowLineV.nil, fun _ => ⟨rfl, rfl⟩, Nat.le_refl _, Nat.zero_le _, fun x hx => absurd hx (by simp)⟩
  · have hnm : n ≤ m := by
      rw [hm']
      split <;> omega
    have hfit : ∀ i : Nat, i < n → Fits Try.prog 60 (D i) := fun i hin => by
      rw [hx] at hz
      exact hz.item Try.underlying27 (List.mem_map.2 ⟨i, List.mem_range.2 hin, rfl⟩)
    rw [cellsOfLineV] at hi
    by_cases hz0 : n = 0
    · subst hz0
      exact ⟨some y, [], c, hcs, RowLineV.nil, fun h => (by cases h), Nat.zero_le _, hm, fun x hx => absurd hx (by simp)⟩
    have each0 : ∀ i : Nat, i < n → ∃ o : LineV, (W.cell? ((y.add (i * 9)).add 0) = some (.int .i64 o.1) ∧ W.cell? ((y.add (i * 9)).add 1) = some (.int .i64 o.2.1) ∧ W.cell? ((y.add (i * 9)).add 2) = some (.string o.2.2.1) ∧ W.cell? ((y.add (i * 9)).add 3) = some (.string o.2.2.2.1) ∧ W.cell? ((y.add (i * 9)).add 4) = some (.string o.2.2.2.2.1) ∧ W.cell? ((y.add (i * 9)).add 5) = some (.int .i64 o.2.2.2.2.2.1) ∧ W.cell? ((y.add (i * 9)).add 6) = some (.bool o.2.2.2.2.2.2.1) ∧ W.cell? ((y.add (i * 9)).add 7) = some (.int .i64 o.2.2.2.2.2.2.2.1) ∧ W.cell? ((y.add (i * 9)).add 8) = some (.bool o.2.2.2.2.2.2.2.2)) ∧ (o.2.2.1.size ≤ 140737488351232 ∧ o.2.2.2.1.size ≤ 140737488351232 ∧ o.2.2.2.2.1.size ≤ 140737488351232) := fun i hin => by
      obtain ⟨cs', hc, ht⟩ := hi i (by omega)
      obtain ⟨_, hcl, hat⟩ := World.cells?_some hc
      obtain ⟨o, rfl, hw⟩ := ofLineV ht (hfit i hin) hcl
      exact ⟨o, ⟨hat 0 (by decide), hat 1 (by decide), hat 2 (by decide), hat 3 (by decide), hat 4 (by decide), hat 5 (by decide), hat 6 (by decide), hat 7 (by decide), hat 8 (by decide)⟩, hw⟩
    obtain ⟨b, off, spot⟩ := y
    have hspot : spot = none := by
      obtain ⟨o, ⟨g0, _⟩, _⟩ := each0 0 (by omega)
      simpa [Addr.add] using World.cell?_spot g0
    subst hspot
    have e : ∀ i j : Nat, ((⟨b, off, none⟩ : Addr).add (i * 9)).add j = ⟨b, off + i * 9 + j, none⟩ := fun i j => by
      rw [Addr.add_mid, Addr.add_mid]
    have each : ∀ i : Fin n, ∃ o : LineV, (W.cell? ⟨b, off + i.val * 9, none⟩ = some (.int .i64 o.1) ∧ W.cell? ⟨b, off + i.val * 9 + 1, none⟩ = some (.int .i64 o.2.1) ∧ W.cell? ⟨b, off + i.val * 9 + 2, none⟩ = some (.string o.2.2.1) ∧ W.cell? ⟨b, off + i.val * 9 + 3, none⟩ = some (.string o.2.2.2.1) ∧ W.cell? ⟨b, off + i.val * 9 + 4, none⟩ = some (.string o.2.2.2.2.1) ∧ W.cell? ⟨b, off + i.val * 9 + 5, none⟩ = some (.int .i64 o.2.2.2.2.2.1) ∧ W.cell? ⟨b, off + i.val * 9 + 6, none⟩ = some (.bool o.2.2.2.2.2.2.1) ∧ W.cell? ⟨b, off + i.val * 9 + 7, none⟩ = some (.int .i64 o.2.2.2.2.2.2.2.1) ∧ W.cell? ⟨b, off + i.val * 9 + 8, none⟩ = some (.bool o.2.2.2.2.2.2.2.2)) ∧ (o.2.2.1.size ≤ 140737488351232 ∧ o.2.2.2.1.size ≤ 140737488351232 ∧ o.2.2.2.2.1.size ≤ 140737488351232) := fun i => by
      obtain ⟨o, ⟨h0, h1, h2, h3, h4, h5, h6, h7, h8⟩, hw⟩ := each0 i.val i.isLt
      rw [e] at h0 h1 h2 h3 h4 h5 h6 h7 h8
      exact ⟨o, ⟨h0, h1, h2, h3, h4, h5, h6, h7, h8⟩, hw⟩
    have hL : (List.ofFn fun i => Classical.choose (each i)).length = n := List.length_ofFn
    refine ⟨some ⟨b, off, none⟩, List.ofFn fun i => Classical.choose (each i), c, by rw [hL]; exact hcs, fun _ => ⟨b, off, rfl, ?_, ?_⟩, fun h => (by cases h), by rw [hL]; exact hl, hm, ?_⟩
    · obtain ⟨o, ⟨h0, _⟩, _⟩ := each ⟨0, by omega⟩
      exact block_lt_of_cell h0
    · intro j v hv
      have hj := (List.getElem?_eq_some_iff.1 hv).1
      rw [flatsLineV_len, hL] at hj
      have hq : j / 9 < n := by omega
      obtain ⟨⟨h0, h1, h2, h3, h4, h5, h6, h7, h8⟩, _⟩ := Classical.choose_spec (each ⟨j / 9, hq⟩)
      obtain ⟨g0, g1, g2, g3, g4, g5, g6, g7, g8⟩ := flatsLineV_at (List.ofFn fun i => Classical.choose (each i)) (j / 9) (by rw [hL]; exact hq)
      rw [List.getElem_ofFn] at g0 g1 g2 g3 g4 g5 g6 g7 g8
      have hr : j = 9 * (j / 9) ∨ j = 9 * (j / 9) + 1 ∨ j = 9 * (j / 9) + 2 ∨ j = 9 * (j / 9) + 3 ∨ j = 9 * (j / 9) + 4 ∨ j = 9 * (j / 9) + 5 ∨ j = 9 * (j / 9) + 6 ∨ j = 9 * (j / 9) + 7 ∨ j = 9 * (j / 9) + 8 := by omega
      rcases hr with hr | hr | hr | hr | hr | hr | hr | hr | hr
      · rw [hr, g0] at hv
        injection hv with hv
        subst hv
        rw [show off + j = off + j / 9 * 9 by omega]
        exact h0
      · rw [hr, g1] at hv
        injection hv with hv
        subst hv
        rw [show off + j = off + j / 9 * 9 + 1 by omega]
        exact h1
      · rw [hr, g2] at hv
        injection hv with hv
        subst hv
        rw [show off + j = off + j / 9 * 9 + 2 by omega]
        exact h2
      · rw [hr, g3] at hv
        injection hv with hv
        subst hv
        rw [show off + j = off + j / 9 * 9 + 3 by omega]
        exact h3
      · rw [hr, g4] at hv
        injection hv with hv
        subst hv
        rw [show off + j = off + j / 9 * 9 + 4 by omega]
        exact h4
      · rw [hr, g5] at hv
        injection hv with hv
        subst hv
        rw [show off + j = off + j / 9 * 9 + 5 by omega]
        exact h5
      · rw [hr, g6] at hv
        injection hv with hv
        subst hv
        rw [show off + j = off + j / 9 * 9 + 6 by omega]
        exact h6
      · rw [hr, g7] at hv
        injection hv with hv
        subst hv
        rw [show off + j = off + j / 9 * 9 + 7 by omega]
        exact h7
      · rw [hr, g8] at hv
        injection hv with hv
        subst hv
        rw [show off + j = off + j / 9 * 9 + 8 by omega]
        exact h8
    · intro x hx
      obtain ⟨i, rfl⟩ := List.mem_ofFn.1 hx
      exact (Classical.choose_spec (each i)).2
structure DocV where
  id : ByteArray
  sale : Bool
  credit : Bool
  refers : ByteArray
  day : Int
  country : ByteArray
  number : ByteArray
  currency : ByteArray
  linesA : Option Addr
  lines : List LineV
  linesC : Nat
def DocVOk (w : World) (d : DocV) : Prop := d.id.size ≤ 140737488351232 ∧ d.refers.size ≤ 140737488351232 ∧ d.country.size ≤ 140737488351232 ∧ d.number.size ≤ 140737488351232 ∧ d.currency.size ≤ 140737488351232 ∧ RowLineV w d.linesA d.lines ∧ (d.linesA = none → d.lines = [] ∧ d.linesC = 0) ∧ d.lines.length ≤ d.linesC ∧ d.linesC ≤ maxLen ∧ (∀ r ∈ d.lines, r.2.2.1.size ≤ 140737488351232 ∧ r.2.2.2.1.size ≤ 140737488351232 ∧ r.2.2.2.2.1.size ≤ 140737488351232)
theorem cellsOfDocV : Try.prog.cellsOf 29 = 9 := by kernel_rfl
theorem ofDocV {fuel : Nat} {cs : List Value} {x : DataW H × List MemPlace} (h : DataW.trod enc Try.prog W base sp held fuel 29 cs = some x) (hz : Fits Try.prog 29 x.1) (hl : cs.length = 9) : ∃ o : DocV, cs = [.string o.id, .bool o.sale, .bool o.credit, .string o.refers, .int .i64 o.day, .string o.country, .string o.number, .string o.currency, .slice o.linesA o.lines.length o.linesC] ∧ DocVOk W o := by
  match cs, hl with
  | [c0, c1, c2, c3, c4, c5, c6, c7, c8], _ =>
    obtain ⟨y0, y1, y2, y3, y4, y5, y6, y7, y8, n, hzs, _, h0, h1, h2, h3, h4, h5, h6, h7, h8⟩ := trod_struct9 Try.underlying29 h
    obtain ⟨z0, z1, z2, z3, z4, z5, z6, z7, z8⟩ := hzs hz
    have hcint : Try.prog.cellsOf 3 = 1 := by kernel_rfl
    have hcstr : Try.prog.cellsOf 9 = 1 := by kernel_rfl
    have hcbool : Try.prog.cellsOf 4 = 1 := by kernel_rfl
    obtain ⟨q0, e0, d0, _⟩ := DataW.trod_string Try.underlying9 h0
    rw [hcstr] at e0
    rw [d0] at z0
    obtain ⟨q1, e1, _⟩ := DataW.trod_bool Try.underlying4 h1
    rw [hcbool] at e1
    obtain ⟨q2, e2, _⟩ := DataW.trod_bool Try.underlying4 h2
    rw [hcbool] at e2
    obtain ⟨q3, e3, d3, _⟩ := DataW.trod_string Try.underlying9 h3
    rw [hcstr] at e3
    rw [d3] at z3
    obtain ⟨q4, e4, _, _⟩ := DataW.trod_int Try.underlying3 h4
    rw [hcint] at e4
    obtain ⟨q5, e5, d5, _⟩ := DataW.trod_string Try.underlying9 h5
    rw [hcstr] at e5
    rw [d5] at z5
    obtain ⟨q6, e6, d6, _⟩ := DataW.trod_string Try.underlying9 h6
    rw [hcstr] at e6
    rw [d6] at z6
    obtain ⟨q7, e7, d7, _⟩ := DataW.trod_string Try.underlying9 h7
    rw [hcstr] at e7
    rw [d7] at z7
    have hcs8 : Try.prog.cellsOf 27 = 1 := by kernel_rfl
    rw [hcs8] at h8
    obtain ⟨qa8, q8, qc8, e8, wr8, wn8, wl8, wm8, wg8⟩ := manyLineV h8 z8
    simp at e0 e1 e2 e3 e4 e5 e6 e7 e8
    subst e0
    subst e1
    subst e2
    subst e3
    subst e4
    subst e5
    subst e6
    subst e7
    subst e8
    exact ⟨⟨q0, q1, q2, q3, q4, q5, q6, q7, qa8, q8, qc8⟩, rfl, ⟨z0.text, z3.text, z5.text, z6.text, z7.text, wr8, wn8, wl8, wm8, wg8⟩⟩
theorem openDocV {r : Reach} {b0 : Nat} {v : Value} {d : DataW H} {p : List MemPlace} (hv : Value.okWide Try.prog W r b0 29 v)
    (h : DataW.Trod enc Try.prog W base sp held 29 v d p) (hz : Fits Try.prog 29 d) : ∃ x : DocV, v = .agg #[.string x.id, .bool x.sale, .bool x.credit, .string x.refers, .int .i64 x.day, .string x.country, .string x.number, .string x.currency, .slice x.linesA x.lines.length x.linesC] ∧ DocVOk W x := by
  obtain ⟨cs, rfl, hsz⟩ := okWide_struct Try.underlying29 hv
  obtain ⟨fuel, hf⟩ := h
  obtain ⟨o, ho, hw⟩ := ofDocV (cs := cs.toList) (by simpa [Value.cells] using hf) hz (by rw [Array.length_toList, hsz, cellsOfDocV])
  refine ⟨o, ?_, hw⟩
  congr 1
  apply Array.ext'
  rw [ho]
end
end Go.Proofs.Ytjanhgekocpobaa
