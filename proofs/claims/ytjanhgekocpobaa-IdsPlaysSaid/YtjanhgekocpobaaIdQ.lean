/- Documents that are there: rows of documents; whether all are light. Documents that are there: one more behind a row that is full; whatever is put. -/
import Derived.Test.YtjanhgekocpobaaIdA
import Derived.Test.YtjanhgekocpobaaDocC
import Derived.Test.YtjanhgekocpobaaIdO
import Derived.ArgAppend
namespace Go.Proofs.Ytjanhgekocpobaa
open Go.ChangeShapes Go.WideShapes Go.ChangeAt Go.RowKit Go.Joins Go.Deep
set_option maxRecDepth 100000
set_option linter.unusedSimpArgs false
set_option linter.unusedVariables false
attribute [local go_sem] Oper.semAt_some

def flatsD (L : List DocV) : List Value := L.flatMap docC
theorem flatsD_len (L : List DocV) : (flatsD L).length = 9 * L.length := by
  induction L with
  | nil => rfl
  | cons p L ih =>
    have e : flatsD (p :: L) = docC p ++ flatsD L := rfl
    rw [e, List.length_append, ih]
    simp [docC]
    omega
theorem flatsD_append (L M : List DocV) : flatsD (L ++ M) = flatsD L ++ flatsD M := List.flatMap_append
theorem flatsD_one (M : List DocV) : ∀ u ∈ flatsD M, u.oneCell' = true := by
  intro u hu
  obtain ⟨p, _, hp⟩ := List.mem_flatMap.1 hu
  simp only [docC, List.mem_cons, List.not_mem_nil, or_false] at hp
  rcases hp with rfl | rfl | rfl | rfl | rfl | rfl | rfl | rfl | rfl <;> rfl
theorem flatsD_at (L : List DocV) : ∀ (i : Nat) (h : i < L.length), (flatsD L)[9 * i]? = some (.string L[i].id) ∧ (flatsD L)[9 * i + 1]? = some (.bool L[i].sale) ∧ (flatsD L)[9 * i + 2]? = some (.bool L[i].credit) ∧ (flatsD L)[9 * i + 3]? = some (.string L[i].refers) ∧ (flatsD L)[9 * i + 4]? = some (.int .i64 L[i].day) ∧ (flatsD L)[9 * i + 5]? = some (.string L[i].country) ∧ (flatsD L)[9 * i + 6]? = some (.string L[i].number) ∧ (flatsD L)[9 * i + 7]? = some (.string L[i].currency) ∧ (flatsD L)[9 * i + 8]? = some (.slice L[i].linesA L[i].lines.length L[i].linesC) := by
  induction L with
  | nil => intro i h; simp at h
  | cons p L ih =>
    intro i h
    have e : flatsD (p :: L) = docC p ++ flatsD L := rfl
    rw [e]
    cases i with
    | zero => exact ⟨rfl, rfl, rfl, rfl, rfl, rfl, rfl, rfl, rfl⟩
    | succ i =>
      obtain ⟨h0, h1, h2, h3, h4, h5, h6, h7, h8⟩ := ih i (by simpa using h)
      have hl : (docC p).length = 9 := rfl
      refine ⟨?_, ?_, ?_, ?_, ?_, ?_, ?_, ?_, ?_⟩
      · rw [List.getElem?_append_right (by rw [hl]; omega), hl, show 9 * (i + 1) - 9 = 9 * i by omega]; simpa using h0
      · rw [List.getElem?_append_right (by rw [hl]; omega), hl, show 9 * (i + 1) + 1 - 9 = 9 * i + 1 by omega]; simpa using h1
      · rw [List.getElem?_append_right (by rw [hl]; omega), hl, show 9 * (i + 1) + 2 - 9 = 9 * i + 2 by omega]; simpa using h2
      · rw [List.getElem?_append_right (by rw [hl]; omega), hl, show 9 * (i + 1) + 3 - 9 = 9 * i + 3 by omega]; simpa using h3
      · rw [List.getElem?_append_right (by rw [hl]; omega), hl, show 9 * (i + 1) + 4 - 9 = 9 * i + 4 by omega]; simpa using h4
      · rw [List.getElem?_append_right (by rw [hl]; omega), hl, show 9 * (i + 1) + 5 - 9 = 9 * i + 5 by omega]; simpa using h5
      · rw [List.getElem?_append_right (by rw [hl]; omega), hl, show 9 * (i + 1) + 6 - 9 = 9 * i + 6 by omega]; simpa using h6
      · rw [List.getElem?_append_right (by rw [hl]; omega), hl, show 9 * (i + 1) + 7 - 9 = 9 * i + 7 by omega]; simpa using h7
      · rw [List.getElem?_append_right (by rw [hl]; omega), hl, show 9 * (i + 1) + 8 - 9 = 9 * i + 8 by omega]; simpa using h8
/-- at that address they lie, one behind the other; of none nothing is asked -/
def RowD (w : World) (A : Option Addr) (L : List DocV) : Prop :=
  L ≠ [] → ∃ b o, A = some ⟨b, o, none⟩ ∧ b < w.heap.size ∧ w.rangeAt b o (flatsD L)
theorem RowD.on {w W : World} {A : Option Addr} {L : List DocV} (h : RowD w A L) (hb : Below w.heap.size w W) : RowD W A L := fun hn => by
  obtain ⟨b, o, e, hl, hr⟩ := h hn
  exact ⟨b, o, e, Nat.lt_of_lt_of_le hl hb.size, fun j v hv => cell_on hb (hr j v hv)⟩
theorem RowD.nil {w : World} {A : Option Addr} : RowD w A [] := fun h => absurd rfl h
theorem RowD.at_ {w : World} {A : Option Addr} {L : List DocV} (h : RowD w A L) (i : Nat) (hi : i < L.length) : ∃ b o, A = some ⟨b, o, none⟩ ∧ b < w.heap.size ∧
    w.cell? ⟨b, o + i * 9, none⟩ = some (.string L[i].id) ∧ w.cell? ⟨b, o + i * 9 + 1, none⟩ = some (.bool L[i].sale) ∧ w.cell? ⟨b, o + i * 9 + 2, none⟩ = some (.bool L[i].credit) ∧ w.cell? ⟨b, o + i * 9 + 3, none⟩ = some (.string L[i].refers) ∧ w.cell? ⟨b, o + i * 9 + 4, none⟩ = some (.int .i64 L[i].day) ∧ w.cell? ⟨b, o + i * 9 + 5, none⟩ = some (.string L[i].country) ∧ w.cell? ⟨b, o + i * 9 + 6, none⟩ = some (.string L[i].number) ∧ w.cell? ⟨b, o + i * 9 + 7, none⟩ = some (.string L[i].currency) ∧ w.cell? ⟨b, o + i * 9 + 8, none⟩ = some (.slice L[i].linesA L[i].lines.length L[i].linesC) := by
  obtain ⟨b, o, e, hl, hr⟩ := h (by intro h0; subst h0; simp at hi)
  obtain ⟨h0, h1, h2, h3, h4, h5, h6, h7, h8⟩ := flatsD_at L i hi
  have g0 := hr _ _ h0
  have g1 := hr _ _ h1
  have g2 := hr _ _ h2
  have g3 := hr _ _ h3
  have g4 := hr _ _ h4
  have g5 := hr _ _ h5
  have g6 := hr _ _ h6
  have g7 := hr _ _ h7
  have g8 := hr _ _ h8
  rw [← Nat.add_assoc] at g1 g2 g3 g4 g5 g6 g7 g8
  rw [Nat.mul_comm 9 i] at g0 g1 g2 g3 g4 g5 g6 g7 g8
  exact ⟨b, o, e, hl, g0, g1, g2, g3, g4, g5, g6, g7, g8⟩
theorem boxD {W : World} {g : Nat} {p : DocV} {t : TypeId} (h : W.heap[g]? = some (.cells #[.string p.id, .bool p.sale, .bool p.credit, .string p.refers, .int .i64 p.day, .string p.country, .string p.number, .string p.currency, .slice p.linesA p.lines.length p.linesC] t (0, 0))) : RowD W (some ⟨g, 0, none⟩) [p] := fun _ => ⟨g, 0, rfl, heapLt h, fun j v hv => by
  match j with
  | 0 => simp [flatsD, docC] at hv; subst hv; rw [cell_of_row W g 0 _ _ _ h]; rfl
  | 1 => simp [flatsD, docC] at hv; subst hv; rw [cell_of_row W g 1 _ _ _ h]; rfl
  | 2 => simp [flatsD, docC] at hv; subst hv; rw [cell_of_row W g 2 _ _ _ h]; rfl
  | 3 => simp [flatsD, docC] at hv; subst hv; rw [cell_of_row W g 3 _ _ _ h]; rfl
  | 4 => simp [flatsD, docC] at hv; subst hv; rw [cell_of_row W g 4 _ _ _ h]; rfl
  | 5 => simp [flatsD, docC] at hv; subst hv; rw [cell_of_row W g 5 _ _ _ h]; rfl
  | 6 => simp [flatsD, docC] at hv; subst hv; rw [cell_of_row W g 6 _ _ _ h]; rfl
  | 7 => simp [flatsD, docC] at hv; subst hv; rw [cell_of_row W g 7 _ _ _ h]; rfl
  | 8 => simp [flatsD, docC] at hv; subst hv; rw [cell_of_row W g 8 _ _ _ h]; rfl
  | j + 9 => simp [flatsD, docC] at hv⟩
theorem bytesOfD : Try.prog.bytesOf 29 = 120 := by kernel_rfl
section
variable {H : Type} {enc : TypeId × Value → H} {W : World} {base : Nat} {sp : Nat → Bool} {held : Bool}
/-- a row of them, wherever its slice lies -/
theorem manyD {fuel : Nat} {cs : List Value} {x : DataW H × List MemPlace} (h : DataW.trod enc Try.prog W base sp held fuel 22 cs = some x) (hz : Fits Try.prog 22 x.1) :
    ∃ (A : Option Addr) (L : List DocV) (c : Nat), cs = [.slice A L.length c] ∧ RowD W A L ∧ (A = none → L = [] ∧ c = 0) ∧ L.length ≤ c ∧ c ≤ maxLen ∧ (∀ x ∈ L, DocVOk W x) ∧ L.length * 120 ≤ 140737488351232 := by
  rcases open_slice Try.underlying22 h with ⟨hcs, _⟩ | ⟨y, n, c, m, k, D, Pl, hcs, _, hl, hm, hm', hx, hi⟩
  · exact ⟨none, [], 0, hcs, RowD.nil, fun _ => ⟨rfl, rfl⟩, Nat.le_refl _, Nat.zero_le _, fun x hx => absurd hx (by simp), by simp⟩
  · have hnm : n ≤ m := by
      rw [hm']
      split <;> omega
    have hroom : n * 120 ≤ 140737488351232 := by
      have hz2 := hz
      rw [hx] at hz2
      have := hz2.room Try.underlying22
      rw [bytesOfD] at this
      simpa using this
    have hfit : ∀ i : Nat, i < n → Fits Try.prog 29 (D i) := fun i hin => by
      rw [hx] at hz
      exact hz.item Try.underlying22 (List.mem_map.2 ⟨i, List.mem_range.2 hin, rfl⟩)
    rw [cellsOfDocV] at hi
    by_cases hz0 : n = 0
    · subst hz0
      exact ⟨some y, [], c, hcs, RowD.nil, fun h => (by cases h), Nat.zero_le _, hm, fun x hx => absurd hx (by simp), by simp⟩
    have each0 : ∀ i : Nat, i < n → ∃ o : DocV, (W.cell? ((y.add (i * 9)).add 0) = some (.string o.id) ∧ W.cell? ((y.add (i * 9)).add 1) = some (.bool o.sale) ∧ W.cell? ((y.add (i * 9)).add 2) = some (.bool o.credit) ∧ W.cell? ((y.add (i * 9)).add 3) = some (.string o.refers) ∧ W.cell? ((y.add (i * 9)).add 4) = some (.int .i64 o.day) ∧ W.cell? ((y.add (i * 9)).add 5) = some (.string o.country) ∧ W.cell? ((y.add (i * 9)).add 6) = some (.string o.number) ∧ W.cell? ((y.add (i * 9)).add 7) = some (.string o.currency) ∧ W.cell? ((y.add (i * 9)).add 8) = some (.slice o.linesA o.lines.length o.linesC)) ∧ DocVOk W o := fun i hin => by
      obtain ⟨cs', hc, ht⟩ := hi i (by omega)
      obtain ⟨_, hcl, hat⟩ := World.cells?_some hc
      obtain ⟨o, rfl, hw⟩ := ofDocV ht (hfit i hin) hcl
      exact ⟨o, ⟨hat 0 (by decide), hat 1 (by decide), hat 2 (by decide), hat 3 (by decide), hat 4 (by decide), hat 5 (by decide), hat 6 (by decide), hat 7 (by decide), hat 8 (by decide)⟩, hw⟩
    obtain ⟨b, off, spot⟩ := y
    have hspot : spot = none := by
      obtain ⟨o, ⟨g0, _⟩, _⟩ := each0 0 (by omega)
      simpa [Addr.add] using World.cell?_spot g0
    subst hspot
    have e : ∀ i j : Nat, ((⟨b, off, none⟩ : Addr).add (i * 9)).add j = ⟨b, off + i * 9 + j, none⟩ := fun i j => by
      rw [Addr.add_mid, Addr.add_mid]
    have each : ∀ i : Fin n, ∃ o : DocV, (W.cell? ⟨b, off + i.val * 9, none⟩ = some (.string o.id) ∧ W.cell? ⟨b, off + i.val * 9 + 1, none⟩ = some (.bool o.sale) ∧ W.cell? ⟨b, off + i.val * 9 + 2, none⟩ = some (.bool o.credit) ∧ W.cell? ⟨b, off + i.val * 9 + 3, none⟩ = some (.string o.refers) ∧ W.cell? ⟨b, off + i.val * 9 + 4, none⟩ = some (.int .i64 o.day) ∧ W.cell? ⟨b, off + i.val * 9 + 5, none⟩ = some (.string o.country) ∧ W.cell? ⟨b, off + i.val * 9 + 6, none⟩ = some (.string o.number) ∧ W.cell? ⟨b, off + i.val * 9 + 7, none⟩ = some (.string o.currency) ∧ W.cell? ⟨b, off + i.val * 9 + 8, none⟩ = some (.slice o.linesA o.lines.length o.linesC)) ∧ DocVOk W o := fun i => by
      obtain ⟨o, ⟨h0, h1, h2, h3, h4, h5, h6, h7, h8⟩, hw⟩ := each0 i.val i.isLt
      rw [e] at h0 h1 h2 h3 h4 h5 h6 h7 h8
      exact ⟨o, ⟨h0, h1, h2, h3, h4, h5, h6, h7, h8⟩, hw⟩
    have hL : (List.ofFn fun i => Classical.choose (each i)).length = n := List.length_ofFn
    refine ⟨some ⟨b, off, none⟩, List.ofFn fun i => Classical.choose (each i), c, by rw [hL]; exact hcs, fun _ => ⟨b, off, rfl, ?_, ?_⟩, fun h => (by cases h), by rw [hL]; exact hl, hm, ?_, by rw [hL]; exact hroom⟩
    · obtain ⟨o, ⟨h0, _⟩, _⟩ := each ⟨0, by omega⟩
      exact block_lt_of_cell h0
    · intro j v hv
      have hj := (List.getElem?_eq_some_iff.1 hv).1
      rw [flatsD_len, hL] at hj
      have hq : j / 9 < n := by omega
      obtain ⟨⟨h0, h1, h2, h3, h4, h5, h6, h7, h8⟩, _⟩ := Classical.choose_spec (each ⟨j / 9, hq⟩)
      obtain ⟨g0, g1, g2, g3, g4, g5, g6, g7, g8⟩ := flatsD_at (List.ofFn fun i => Classical.choose (each i)) (j / 9) (by rw [hL]; exact hq)
      rw [List.getElem_ofFn] at g0 g1 g2 g3 g4 g5 g6 g7 g8
      have hr : j = 9 * (j / 9) ∨ j = 9 * (j / 9) + 1 ∨ j = 9 * (j / 9) + 2 ∨ j = 9 * (j / 9) + 3 ∨ j = 9 * (j / 9) + 4 ∨ j = 9 * (j / 9) + 5 ∨ j = 9 * (j / 9) + 6 ∨ j = 9 * (j / 9) + 7 ∨ j = 9 * (j / 9) + 8 := by omega
      rcases hr with hr | hr | hr | hr | hr | hr | hr | hr | hr
      · rw [hr, g0] at hv
        injection hv with hv
        subst hv
        rw [show off + j = off + j / 9 * 9 by omega]
        exact h0
      · rw [hr, g1] at hv
        injection hv with hv
        subst hv
        rw [show off + j = off + j / 9 * 9 + 1 by omega]
        exact h1
      · rw [hr, g2] at hv
        injection hv with hv
        subst hv
        rw [show off + j = off + j / 9 * 9 + 2 by omega]
        exact h2
      · rw [hr, g3] at hv
        injection hv with hv
        subst hv
        rw [show off + j = off + j / 9 * 9 + 3 by omega]
        exact h3
      · rw [hr, g4] at hv
        injection hv with hv
        subst hv
        rw [show off + j = off + j / 9 * 9 + 4 by omega]
        exact h4
      · rw [hr, g5] at hv
        injection hv with hv
        subst hv
        rw [show off + j = off + j / 9 * 9 + 5 by omega]
        exact h5
      · rw [hr, g6] at hv
        injection hv with hv
        subst hv
        rw [show off + j = off + j / 9 * 9 + 6 by omega]
        exact h6
      · rw [hr, g7] at hv
        injection hv with hv
        subst hv
        rw [show off + j = off + j / 9 * 9 + 7 by omega]
        exact h7
      · rw [hr, g8] at hv
        injection hv with hv
        subst hv
        rw [show off + j = off + j / 9 * 9 + 8 by omega]
        exact h8
    · intro x hx
      obtain ⟨i, rfl⟩ := List.mem_ofFn.1 hx
      exact (Classical.choose_spec (each i)).2
/-- as an argument -/
theorem openDs {r : Reach} {b0 : Nat} {v : Value} {d : DataW H} {p : List MemPlace} (hv : Value.okWide Try.prog W r b0 22 v)
    (h : DataW.Trod enc Try.prog W base sp held 22 v d p) (hz : Fits Try.prog 22 d) : ∃ (A : Option Addr) (L : List DocV) (c : Nat), v = .slice A L.length c ∧ RowD W A L ∧ (A = none → L = [] ∧ c = 0) ∧ L.length ≤ c ∧ c ≤ maxLen ∧ (∀ x ∈ L, DocVOk W x) ∧ L.length * 120 ≤ 140737488351232 := by
  obtain ⟨a, n, c, rfl⟩ := okWide_slice Try.underlying22 hv
  obtain ⟨fuel, hf⟩ := h
  obtain ⟨A, L, c', e, h1, h2, h3, h4, h5, h6⟩ := manyD (by simpa [Value.cells] using hf) hz
  simp at e
  obtain ⟨rfl, rfl, rfl⟩ := e
  refine ⟨_, L, _, rfl, h1, h2, h3, h4, h5, h6⟩
end
def cmdD (d : DocV) : CmdV := ⟨0, ⟨#[]⟩, ⟨#[]⟩, 0, 0, 0, 0, 0, 0, 0, 0, 0, 0, d.id, d.sale, d.credit, d.refers, d.day, d.country, d.number, d.currency, d.linesA, d.lines, d.linesC⟩
theorem cmdD_ok {w : World} {d : DocV} (h : DocVOk w d) : CmdVOk w (cmdD d) := ⟨Nat.zero_le _, Nat.zero_le _, h⟩
def lightD (d : DocV) : Bool := lightC (cmdD d)
def lightsB (L : List DocV) : Bool := L.all lightD && decide (L.length ≤ 40)
theorem all_next {L : List DocV} {k : Nat} (hk : k < L.length) (h : (L.take k).all lightD = true) (hs : lightD L[k] = true) : (L.take (k + 1)).all lightD = true := by
  rw [List.take_succ_eq_append_getElem hk, List.all_append, h]
  simp [hs]
theorem all_not {L : List DocV} {k : Nat} (hk : k < L.length) (hs : lightD L[k] = false) : lightsB L = false := by
  unfold lightsB
  have : L.all lightD = false := by
    rw [List.all_eq_false]
    exact ⟨L[k], List.getElem_mem hk, by simp [hs]⟩
  rw [this]
  rfl
set_option maxHeartbeats 2000000 in
theorem light_row (L : List DocV) (A : Option Addr) (c : Nat) (w : World) (hr : RowD w A L) (hok : ∀ d ∈ L, DocVOk w d) (hl : L.length ≤ 140737488351232) (V : Bool) (hV : lightsB L = V) : Calls Try.prog 6 #[.slice A L.length c] w fun e w' => e = .returned (.bool V) ∧ Below w.heap.size w w' := by
  have HL : Hid (∀ k, (h : k < L.length) → ∀ W, Below w.heap.size w W → Calls Try.prog 20 #[.agg #[.int .i64 0, .string ⟨#[]⟩, .string ⟨#[]⟩, .int .i64 0, .int .i64 0, .int .i64 0, .int .i64 0, .int .i64 0, .int .i64 0, .int .i64 0, .int .i64 0, .int .i64 0, .int .i64 0, .string L[k].id, .bool L[k].sale, .bool L[k].credit, .string L[k].refers, .int .i64 L[k].day, .string L[k].country, .string L[k].number, .string L[k].currency, .slice L[k].linesA L[k].lines.length L[k].linesC]] W fun e w' => e = .returned (.bool (lightD L[k])) ∧ Below W.heap.size W w') := Lib.hid (fun k h W hW => code_light (cmdD L[k]) W (cmdD_ok ((hok _ (List.getElem_mem h)).on hW)) _ rfl)
  have HR := Lib.hid hr
  have HV := Lib.hid hV
  have HLen := Lib.hid hl
  clear hr hok hV hl
  go_enter Try.func6, Try.ntmps6
  go_wp2
  go_loopw [4, 7] (fun v4 v7 wr => ∃ k : Nat, k ≤ L.length ∧ v7 = .int .i64 (k : Nat) ∧ Hid ((L.take k).all lightD = true ∧ Below w.heap.size w wr)) (fun _ v7 _ => L.length - (intOf v7).toNat)
  case atStart => exact ⟨0, Nat.zero_le _, rfl, Lib.hid ⟨rfl, Below.refl _ _⟩⟩
  case round =>
    obtain ⟨k, hk, rfl, HB⟩ := hrel
    by_cases hlt : k < L.length
    · have hlt' : (k : Int) < (L.length : Int) := by omega
      have hkb : (k : Int) ≤ 140737488351232 := by have := HLen.out; omega
      obtain ⟨b, o, rfl, hbl, y0, y1, y2, y3, y4, y5, y6, y7, y8⟩ := (HR.out.on HB.out.2).at_ k hlt
      have HLk := Lib.hid (HL.out k hlt)
      have HNx := Lib.hid (fun hs => all_next hlt HB.out.1 hs)
      have HNo := Lib.hid (fun hs => all_not (L := L) hlt hs)
      have HKe := Lib.hid (show L[k] = L[k] from rfl)
      generalize L[k] = d at y0 y1 y2 y3 y4 y5 y6 y7 y8 HLk HNx HNo
      have HN := Lib.hid (heap_alloc_new wr (.cells #[.string d.id, .bool d.sale, .bool d.credit, .string d.refers, .int .i64 d.day, .string d.country, .string d.number, .string d.currency, .slice d.linesA d.lines.length d.linesC] 29))
      obtain ⟨v0, v1, v2, v3, v4, v5, v6, v7, v8⟩ := cellsLineV HN.out
      have HBn := Lib.hid (below_then HB.out.2 (below_alloc wr (.cells #[.string d.id, .bool d.sale, .bool d.credit, .string d.refers, .int .i64 d.day, .string d.country, .string d.number, .string d.currency, .slice d.linesA d.lines.length d.linesC] 29)))
      clear hbl
      cases hq : lightD d with
      | false =>
        have HNo2 := Lib.hid (HNo.out hq)
        have HLq : Hid (∀ W, Below w.heap.size w W → Calls Try.prog 20 #[.agg #[.int .i64 0, .string ⟨#[]⟩, .string ⟨#[]⟩, .int .i64 0, .int .i64 0, .int .i64 0, .int .i64 0, .int .i64 0, .int .i64 0, .int .i64 0, .int .i64 0, .int .i64 0, .int .i64 0, .string d.id, .bool d.sale, .bool d.credit, .string d.refers, .int .i64 d.day, .string d.country, .string d.number, .string d.currency, .slice d.linesA d.lines.length d.linesC]] W fun e w' => e = .returned (.bool false) ∧ Below W.heap.size W w') := Lib.hid (fun W hW => (HLk.out W hW).mono fun e w' h => by rw [hq] at h; exact h)
        clear hq HNx HNo HLk HL
        go_wp2_with (go_at_call 20; refine (HLq.out _ HBn.out).mono ?_; rintro e w3 ⟨rfl, hb⟩; have HB3 := Lib.hid (below_then HBn.out hb); clear hb)
        have e := HV.out
        rw [HNo2.out] at e
        subst e
        go_ret
        exact ⟨rfl, HB3.out⟩
      | true =>
        have HNx2 := Lib.hid (HNx.out hq)
        have HLq : Hid (∀ W, Below w.heap.size w W → Calls Try.prog 20 #[.agg #[.int .i64 0, .string ⟨#[]⟩, .string ⟨#[]⟩, .int .i64 0, .int .i64 0, .int .i64 0, .int .i64 0, .int .i64 0, .int .i64 0, .int .i64 0, .int .i64 0, .int .i64 0, .int .i64 0, .string d.id, .bool d.sale, .bool d.credit, .string d.refers, .int .i64 d.day, .string d.country, .string d.number, .string d.currency, .slice d.linesA d.lines.length d.linesC]] W fun e w' => e = .returned (.bool true) ∧ Below W.heap.size W w') := Lib.hid (fun W hW => (HLk.out W hW).mono fun e w' h => by rw [hq] at h; exact h)
        clear hq HNx HNo HLk
        go_wp2_with (go_at_call 20; refine (HLq.out _ HBn.out).mono ?_; rintro e w3 ⟨rfl, hb⟩; have HB3 := Lib.hid (below_then HBn.out hb); clear hb; refine Stop.out ?_)
        unfold Stop
        clear y0 y1 y2 y3 y4 y5 y6 y7 y8 v0 v1 v2 v3 v4 v5 v6 v7 v8
        go_wp2
        go_roundw
        case rel => exact ⟨k + 1, by omega, by go_num, Lib.hid ⟨HNx2.out, HB3.out⟩⟩
        case measure => simp [intOf]; omega
    · obtain rfl : k = L.length := by omega
      have hS : L.all lightD = true := by have := HB.out.1; rwa [List.take_length] at this
      have hlb : (L.length : Int) ≤ 140737488351232 := by have := HLen.out; omega
      have e := HV.out
      unfold lightsB at e
      rw [hS, Bool.true_and] at e
      have HB2 := Lib.hid HB.out.2
      clear hlt hk HB HL HR HV hS
      by_cases h40 : L.length ≤ 40
      · have h4 : decide ((L.length : Int) ≤ 40) = true := decide_eq_true (by omega)
        rw [decide_eq_true h40] at e
        subst e
        go_wp2
        go_ret
        exact ⟨rfl, HB2.out⟩
      · have h4 : decide ((L.length : Int) ≤ 40) = false := decide_eq_false (by omega)
        rw [decide_eq_false h40] at e
        subst e
        go_wp2
        go_ret
        exact ⟨rfl, HB2.out⟩
end Go.Proofs.Ytjanhgekocpobaa

namespace Go.Proofs.Ytjanhgekocpobaa
open Go.RowKit
set_option maxRecDepth 100000
set_option linter.unusedSimpArgs false
set_option linter.unusedVariables false
attribute [local go_sem] Oper.semAt_some

theorem docFact : (Try.prog.info? 29).map (fun i => (i.zero, i.size, i.bytes)) = some (some (.agg #[.string ⟨#[]⟩, .bool false, .bool false, .string ⟨#[]⟩, .int .i64 0, .string ⟨#[]⟩, .string ⟨#[]⟩, .string ⟨#[]⟩, .slice none 0 0]), 9, 120) := by kernel_rfl
/-- a row of documents, of the call's own -/
def OwnD (w : World) (base : Nat) (v : Value) (L : List DocV) : Prop := w.ownsRow base 29 9 v L.length (flatsD L)
theorem OwnD.on {w W : World} {B : Nat} {v : Value} {L : List DocV} (h : OwnD w B v L) (hb : Below w.heap.size w W) : OwnD W B v L :=
  World.ownsRow.kept (row := none) h ⟨hb.os, hb.tape, hb.output, hb.size, fun k hk _ => hb.block k hk⟩ (by
    rcases h.2 with ⟨rfl, _⟩ | ⟨g, c, cur, rfl, _⟩
    · exact .inl rfl
    · exact .inr (by simp [Value.ownBlock]))
theorem OwnD.less {w : World} {B B' : Nat} {v : Value} {L : List DocV} (h : OwnD w B v L) (hB : B' ≤ B) : OwnD w B' v L := by
  refine ⟨h.1, ?_⟩
  rcases h.2 with h | ⟨g, c, cur, h1, h2, h3⟩
  · exact .inl h
  · exact .inr ⟨g, c, cur, h1, Nat.le_trans hB h2, h3⟩
theorem OwnD.form {w : World} {B : Nat} {v : Value} {L : List DocV} (h : OwnD w B v L) : ∃ A c, v = .slice A L.length c ∧ RowD w A L ∧ (A = none → L = []) := by
  rcases h.2 with ⟨rfl, h0⟩ | ⟨g, c, cur, rfl, hB, hh, hc, hm, hcs, ht⟩
  · have : L = [] := List.eq_nil_of_length_eq_zero h0
    subst this
    exact ⟨none, 0, rfl, RowD.nil, fun _ => rfl⟩
  · refine ⟨_, c, rfl, fun hn => ⟨g, 0, rfl, heapLt hh, fun j v hv => ?_⟩, fun e => by cases e⟩
    have := World.ownsRow.cells (g := g) h rfl j v hv
    rwa [Addr.add_mid] at this
theorem RowD.range {w : World} {a : Addr} {L : List DocV} (hr : RowD w (some a) L) : ∀ j u, (flatsD L)[j]? = some u → w.cell? (a.add j) = some u := fun j u hu => by
  have hne : L ≠ [] := by
    intro e; subst e; simp [flatsD] at hu
  obtain ⟨b, o, e, _, hra⟩ := hr hne
  injection e with e
  subst e
  rw [Addr.add_mid]
  exact hra j u hu
/-- to a row that is full -/
theorem append_fullD (w : World) (A : Option Addr) (L M : List DocV) (hr : RowD w A L) (hA : A = none → L = []) (a : Addr) (c : Nat) (hm : RowD w (some a) M) (hM : M ≠ []) (hl : (L.length + M.length) * 120 ≤ 140737488355328) :
    ∃ v' w', (Builtin.append_ #[22, 22] 22 #[.slice A L.length L.length, .slice (some a) M.length c]).run Try.prog w = .ok v' w' ∧ OwnD w' w.heap.size v' (L ++ M) ∧ w.grownBy w' none := by
  obtain ⟨i0, hi, hz0, hz1, hz2⟩ := info_parts docFact
  have hMl : 0 < M.length := List.length_pos_iff.2 hM
  have e : OwnD = fun w base v L => w.ownsRow base 29 9 v L.length (flatsD L) := rfl
  rw [e]
  simp only [flatsD_append, List.length_append]
  cases A with
  | none =>
    obtain rfl := hA rfl
    obtain ⟨v', w', h1, h2, h3, _⟩ := run_append_own (P := Try.prog) w w.heap.size 22 22 29 i0 _ 9 120 Try.underlying22 hi hz0 hz1 hz2 rfl (by decide) (.slice none 0 0) 0 [] (World.ownsRow_nil w _ _ 9) a M.length c (flatsD M) (by rw [flatsD_len]; omega) hm.range (flatsD_one M) (by unfold maxLen; omega) (by simpa using hl) (Nat.le_refl _)
    exact ⟨v', w', h1, h2, h3⟩
  | some b =>
    obtain ⟨v', w', h1, h2, h3⟩ := run_append_arg_grows (P := Try.prog) w 22 22 29 i0 _ 9 120 Try.underlying22 hi hz0 hz1 hz2 rfl (by decide) b L.length L.length (flatsD L) (by rw [flatsD_len]; omega) hr.range a M.length c (flatsD M) (by rw [flatsD_len]; omega) hm.range (by omega) (by unfold maxLen; omega) hl
    exact ⟨v', w', h1, h2, h3⟩
theorem wp_append_fullD (w : World) {o : Oper} {a : Act} {K : Act → World → Prop} {Q : Exit → Act → World → Prop} (s x : Operand)
    (ho : o.op = .call { callee := .builtin .append, args := #[s, x], argTypes := #[22, 22] }) (hty : o.type = 22) (A : Option Addr) (L : List DocV) (hs : a.eval s = .slice A L.length L.length) (hr : RowD w A L) (hA : A = none → L = [])
    (p : Addr) (n c : Nat) (M : List DocV) (hx : a.eval x = .slice (some p) n c) (hn : M.length = n) (hm : RowD w (some p) M) (hM : M ≠ []) (hl : (L.length + M.length) * 120 ≤ 140737488355328)
    (h : ∀ A' c' w', RowD w' A' (L ++ M) → Below w.heap.size w w' → K (a.put o.dst (.slice A' (L.length + n) c')) w') : o.wp Try.prog a w K Q := by
  subst hn
  obtain ⟨v', w', hrun, h2, h3⟩ := append_fullD w A L M hr hA p c hm hM hl
  obtain ⟨A', c', rfl, hr', _⟩ := h2.form
  rw [List.length_append] at hrun
  have hb : Below w.heap.size w w' := (Below.refl _ _).grown h3 (Nat.le_refl _) (by simp)
  unfold Oper.wp execOp
  simp only [ho, hty, resolve, invoke, builtin, Sem.run_bind, Sem.run_pure, Result.andThen_ok, List.map_toArray, List.map_cons, List.map_nil, hs, hx, hrun]
  exact h A' c' w' hr' hb
/-- what a put leaves -/
def PutA (w : World) (base P bm cm n m : Nat) (V : CrsV) (F : Docs) (C : Crs) (d : DocV) (e : Ending) (w' : World) : Prop := e = .returned (.int .i64 (checkV F d)) ∧ Below base w w' ∧ Still w w' ∧ ∃ n' m' V' F' C', SetAt w' base P bm cm n' m' V' F' C' ∧ m' ≤ m + 1 ∧ (checkV F d ≠ 0 ∧ n' = n ∧ F' = F ∧ C' = C ∨ checkV F d = 0 ∧ n' = n + 1 ∧ (∃ A c, F' = upd F d.id (some (reL d A c))) ∧ C' = (if d.credit = true then updC C d.refers (C d.refers ++ [d.id]) else C))
theorem put_any {w : World} {base P bm cm n m : Nat} {V : CrsV} {F : Docs} {C : Crs} (H : SetAt w base P bm cm n m V F C) (d : DocV) (hd : DocVOk w d) (hln : d.lines.length ≤ 140737488351232) (hM : MaxL w) (hn : n ≤ 1000) (hm : m ≤ 1000) (hC : ∀ s, (C s).length ≤ 1000) : Calls Try.prog 11 #[.pointer (some ⟨P, 0, none⟩), docVal d] w (PutA w base P bm cm n m V F C d) := by
  by_cases hE : checkV F d = 0
  · cases hcr : d.credit with
    | false =>
      refine (put_plain H d hd hM hE hn hm hcr).mono fun e w' ⟨he, hb, hs, A, c, m', V', h1, h2⟩ => ⟨by rw [hE]; exact he, hb, hs, n + 1, m', V', _, _, h1, h2, .inr ⟨hE, rfl, ⟨A, c, rfl⟩, by rw [hcr]; rfl⟩⟩
    | true =>
      refine (put_credit H d hd hM hE hn hm hcr (hC _)).mono fun e w' ⟨he, hb, hs, A, c, m', V', h1, h2⟩ => ⟨by rw [hE]; exact he, hb, hs, n + 1, m', V', _, _, h1, h2, .inr ⟨hE, rfl, ⟨A, c, rfl⟩, by rw [hcr]; rfl⟩⟩
  · refine (put_no H d hd hln hM hE).mono fun e w' ⟨he, hb⟩ => ⟨he, hb.mono H.docs.2.2.2, .of_below hb, n, m, V, F, C, H.on hb, Nat.le_succ _, .inl ⟨hE, rfl, rfl, rfl⟩⟩
theorem MaxL.low {w w' : World} {b : Nat} (h : MaxL w) (hb : Below b w w') (hG : 0 < b) : MaxL w' := by
  obtain ⟨h1, m, h2⟩ := h
  exact ⟨Nat.lt_of_lt_of_le h1 hb.size, m, (World.cell?_of_block (hb.block _ hG)).trans h2⟩
end Go.Proofs.Ytjanhgekocpobaa
