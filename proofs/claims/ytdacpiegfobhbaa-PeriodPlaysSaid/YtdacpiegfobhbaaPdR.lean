/- Periods and steps in rows: how they come in, how one more is put behind them. -/
import Derived.Test.YtdacpiegfobhbaaLawEndB
import Derived.Lib.SmallJoins
import Derived.SizedLaws
import Derived.ArgAppend
import Derived.Deep.MidRow
import Derived.Shelf.RegionOpen
import Derived.Laws.StructEq
namespace Go.Proofs.Ytdacpiegfobhbaa
open Go.ChangeShapes Go.WideShapes Go.ChangeAt Go.RowKit Go.Joins Go.Deep
set_option maxRecDepth 100000
abbrev StepV := Int × Int × Int × Int
def flatStepV (p : StepV) : List Value := [.int .i64 p.1, .int .i64 p.2.1, .int .i64 p.2.2.1, .int .i64 p.2.2.2]
def flatsStepV (L : List StepV) : List Value := L.flatMap flatStepV
theorem flatsStepV_len (L : List StepV) : (flatsStepV L).length = 4 * L.length := by
  induction L with
  | nil => rfl
  | cons p L ih =>
    have e : flatsStepV (p :: L) = flatStepV p ++ flatsStepV L := rfl
    rw [e, List.length_append, ih]
    simp [flatStepV]
    omega
theorem flatsStepV_append (L M : List StepV) : flatsStepV (L ++ M) = flatsStepV L ++ flatsStepV M := List.flatMap_append
theorem flatsStepV_one (M : List StepV) : ∀ u ∈ flatsStepV M, u.oneCell' = true := by
  intro u hu
  obtain ⟨p, _, hp⟩ := List.mem_flatMap.1 hu
  simp only [flatStepV, List.mem_cons, List.not_mem_nil, or_false] at hp
  rcases hp with rfl | rfl | rfl | rfl <;> rfl
theorem flatsStepV_at (L : List StepV) : ∀ (i : Nat) (h : i < L.length), (flatsStepV L)[4 * i]? = some (.int .i64 L[i].1) ∧ (flatsStepV L)[4 * i + 1]? = some (.int .i64 L[i].2.1) ∧ (flatsStepV L)[4 * i + 2]? = some (.int .i64 L[i].2.2.1) ∧ (flatsStepV L)[4 * i + 3]? = some (.int .i64 L[i].2.2.2) := by
  induction L with
  | nil => intro i h; simp at h
  | cons p L ih =>
    intro i h
    have e : flatsStepV (p :: L) = flatStepV p ++ flatsStepV L := rfl
    rw [e]
    cases i with
    | zero => exact ⟨rfl, rfl, rfl, rfl⟩
    | succ i =>
      obtain ⟨h0, h1, h2, h3⟩ := ih i (by simpa using h)
      have hl : (flatStepV p).length = 4 := rfl
      refine ⟨?_, ?_, ?_, ?_⟩
      · rw [List.getElem?_append_right (by rw [hl]; omega), hl, show 4 * (i + 1) - 4 = 4 * i by omega]; simpa using h0
      · rw [List.getElem?_append_right (by rw [hl]; omega), hl, show 4 * (i + 1) + 1 - 4 = 4 * i + 1 by omega]; simpa using h1
      · rw [List.getElem?_append_right (by rw [hl]; omega), hl, show 4 * (i + 1) + 2 - 4 = 4 * i + 2 by omega]; simpa using h2
      · rw [List.getElem?_append_right (by rw [hl]; omega), hl, show 4 * (i + 1) + 3 - 4 = 4 * i + 3 by omega]; simpa using h3
/-- at that address they lie, one behind the other; of none nothing is asked -/
def RowStepV (w : World) (A : Option Addr) (L : List StepV) : Prop :=
  L ≠ [] → ∃ b o, A = some ⟨b, o, none⟩ ∧ b < w.heap.size ∧ w.rangeAt b o (flatsStepV L)
theorem RowStepV.on {w W : World} {A : Option Addr} {L : List StepV} (h : RowStepV w A L) (hb : Below w.heap.size w W) : RowStepV W A L := fun hn => by
  obtain ⟨b, o, e, hl, hr⟩ := h hn
  exact ⟨b, o, e, Nat.lt_of_lt_of_le hl hb.size, fun j v hv => cell_on hb (hr j v hv)⟩
theorem RowStepV.nil {w : World} {A : Option Addr} : RowStepV w A [] := fun h => absurd rfl h
theorem RowStepV.at_ {w : World} {A : Option Addr} {L : List StepV} (h : RowStepV w A L) (i : Nat) (hi : i < L.length) : ∃ b o, A = some ⟨b, o, none⟩ ∧ b < w.heap.size ∧
    w.cell? ⟨b, o + i * 4, none⟩ = some (.int .i64 L[i].1) ∧ w.cell? ⟨b, o + i * 4 + 1, none⟩ = some (.int .i64 L[i].2.1) ∧ w.cell? ⟨b, o + i * 4 + 2, none⟩ = some (.int .i64 L[i].2.2.1) ∧ w.cell? ⟨b, o + i * 4 + 3, none⟩ = some (.int .i64 L[i].2.2.2) := by
  obtain ⟨b, o, e, hl, hr⟩ := h (by intro h0; subst h0; simp at hi)
  obtain ⟨h0, h1, h2, h3⟩ := flatsStepV_at L i hi
  have g0 := hr _ _ h0
  have g1 := hr _ _ h1
  have g2 := hr _ _ h2
  have g3 := hr _ _ h3
  rw [← Nat.add_assoc] at g1 g2 g3
  rw [Nat.mul_comm 4 i] at g0 g1 g2 g3
  exact ⟨b, o, e, hl, g0, g1, g2, g3⟩
theorem boxStepV {W : World} {g : Nat} {p : StepV} {t : TypeId} (h : W.heap[g]? = some (.cells #[.int .i64 p.1, .int .i64 p.2.1, .int .i64 p.2.2.1, .int .i64 p.2.2.2] t (0, 0))) : RowStepV W (some ⟨g, 0, none⟩) [p] := fun _ => ⟨g, 0, rfl, heapLt h, fun j v hv => by
  match j with
  | 0 => simp [flatsStepV, flatStepV] at hv; subst hv; rw [cell_of_row W g 0 _ _ _ h]; rfl
  | 1 => simp [flatsStepV, flatStepV] at hv; subst hv; rw [cell_of_row W g 1 _ _ _ h]; rfl
  | 2 => simp [flatsStepV, flatStepV] at hv; subst hv; rw [cell_of_row W g 2 _ _ _ h]; rfl
  | 3 => simp [flatsStepV, flatStepV] at hv; subst hv; rw [cell_of_row W g 3 _ _ _ h]; rfl
  | j + 4 => simp [flatsStepV, flatStepV] at hv⟩
theorem cellsStepV {W : World} {g : Nat} {v0 v1 v2 v3 : Value} {t : TypeId} (h : W.heap[g]? = some (.cells #[v0, v1, v2, v3] t (0, 0))) : W.cell? ⟨g, 0, none⟩ = some v0 ∧ W.cell? ⟨g, 1, none⟩ = some v1 ∧ W.cell? ⟨g, 2, none⟩ = some v2 ∧ W.cell? ⟨g, 3, none⟩ = some v3 :=
  ⟨cell_of_row W g 0 _ _ _ h, cell_of_row W g 1 _ _ _ h, cell_of_row W g 2 _ _ _ h, cell_of_row W g 3 _ _ _ h⟩
abbrev PerV := Int × Int × Int
def flatPerV (p : PerV) : List Value := [.int .i64 p.1, .int .i64 p.2.1, .int .i64 p.2.2]
def flatsPerV (L : List PerV) : List Value := L.flatMap flatPerV
theorem flatsPerV_len (L : List PerV) : (flatsPerV L).length = 3 * L.length := by
  induction L with
  | nil => rfl
  | cons p L ih =>
    have e : flatsPerV (p :: L) = flatPerV p ++ flatsPerV L := rfl
    rw [e, List.length_append, ih]
    simp [flatPerV]
    omega
theorem flatsPerV_append (L M : List PerV) : flatsPerV (L ++ M) = flatsPerV L ++ flatsPerV M := List.flatMap_append
theorem flatsPerV_one (M : List PerV) : ∀ u ∈ flatsPerV M, u.oneCell' = true := by
  intro u hu
  obtain ⟨p, _, hp⟩ := List.mem_flatMap.1 hu
  simp only [flatPerV, List.mem_cons, List.not_mem_nil, or_false] at hp
  rcases hp with rfl | rfl | rfl <;> rfl
theorem flatsPerV_at (L : List PerV) : ∀ (i : Nat) (h : i < L.length), (flatsPerV L)[3 * i]? = some (.int .i64 L[i].1) ∧ (flatsPerV L)[3 * i + 1]? = some (.int .i64 L[i].2.1) ∧ (flatsPerV L)[3 * i + 2]? = some (.int .i64 L[i].2.2) := by
  induction L with
  | nil => intro i h; simp at h
  | cons p L ih =>
    intro i h
    have e : flatsPerV (p :: L) = flatPerV p ++ flatsPerV L := rfl
    rw [e]
    cases i with
    | zero => exact ⟨rfl, rfl, rfl⟩
    | succ i =>
      obtain ⟨h0, h1, h2⟩ := ih i (by simpa using h)
      have hl : (flatPerV p).length = 3 := rfl
      refine ⟨?_, ?_, ?_⟩
      · rw [List.getElem?_append_right (by rw [hl]; omega), hl, show 3 * (i + 1) - 3 = 3 * i by omega]; simpa using h0
      · rw [List.getElem?_append_right (by rw [hl]; omega), hl, show 3 * (i + 1) + 1 - 3 = 3 * i + 1 by omega]; simpa using h1
      · rw [List.getElem?_append_right (by rw [hl]; omega), hl, show 3 * (i + 1) + 2 - 3 = 3 * i + 2 by omega]; simpa using h2
/-- at that address they lie, one behind the other; of none nothing is asked -/
def RowPerV (w : World) (A : Option Addr) (L : List PerV) : Prop :=
  L ≠ [] → ∃ b o, A = some ⟨b, o, none⟩ ∧ b < w.heap.size ∧ w.rangeAt b o (flatsPerV L)
theorem RowPerV.on {w W : World} {A : Option Addr} {L : List PerV} (h : RowPerV w A L) (hb : Below w.heap.size w W) : RowPerV W A L := fun hn => by
  obtain ⟨b, o, e, hl, hr⟩ := h hn
  exact ⟨b, o, e, Nat.lt_of_lt_of_le hl hb.size, fun j v hv => cell_on hb (hr j v hv)⟩
theorem RowPerV.nil {w : World} {A : Option Addr} : RowPerV w A [] := fun h => absurd rfl h
theorem RowPerV.at_ {w : World} {A : Option Addr} {L : List PerV} (h : RowPerV w A L) (i : Nat) (hi : i < L.length) : ∃ b o, A = some ⟨b, o, none⟩ ∧ b < w.heap.size ∧
    w.cell? ⟨b, o + i * 3, none⟩ = some (.int .i64 L[i].1) ∧ w.cell? ⟨b, o + i * 3 + 1, none⟩ = some (.int .i64 L[i].2.1) ∧ w.cell? ⟨b, o + i * 3 + 2, none⟩ = some (.int .i64 L[i].2.2) := by
  obtain ⟨b, o, e, hl, hr⟩ := h (by intro h0; subst h0; simp at hi)
  obtain ⟨h0, h1, h2⟩ := flatsPerV_at L i hi
  have g0 := hr _ _ h0
  have g1 := hr _ _ h1
  have g2 := hr _ _ h2
  rw [← Nat.add_assoc] at g1 g2
  rw [Nat.mul_comm 3 i] at g0 g1 g2
  exact ⟨b, o, e, hl, g0, g1, g2⟩
theorem boxPerV {W : World} {g : Nat} {p : PerV} {t : TypeId} (h : W.heap[g]? = some (.cells #[.int .i64 p.1, .int .i64 p.2.1, .int .i64 p.2.2] t (0, 0))) : RowPerV W (some ⟨g, 0, none⟩) [p] := fun _ => ⟨g, 0, rfl, heapLt h, fun j v hv => by
  match j with
  | 0 => simp [flatsPerV, flatPerV] at hv; subst hv; rw [cell_of_row W g 0 _ _ _ h]; rfl
  | 1 => simp [flatsPerV, flatPerV] at hv; subst hv; rw [cell_of_row W g 1 _ _ _ h]; rfl
  | 2 => simp [flatsPerV, flatPerV] at hv; subst hv; rw [cell_of_row W g 2 _ _ _ h]; rfl
  | j + 3 => simp [flatsPerV, flatPerV] at hv⟩
theorem cellsPerV {W : World} {g : Nat} {v0 v1 v2 : Value} {t : TypeId} (h : W.heap[g]? = some (.cells #[v0, v1, v2] t (0, 0))) : W.cell? ⟨g, 0, none⟩ = some v0 ∧ W.cell? ⟨g, 1, none⟩ = some v1 ∧ W.cell? ⟨g, 2, none⟩ = some v2 :=
  ⟨cell_of_row W g 0 _ _ _ h, cell_of_row W g 1 _ _ _ h, cell_of_row W g 2 _ _ _ h⟩
theorem factPerV : (Try.prog.info? 24).map (fun i => (i.zero, i.size, i.bytes)) = some (some (.agg #[.int .i64 0, .int .i64 0, .int .i64 0]), 3, 24) := by kernel_rfl
/-- a row of the call's own -/
def OwnPerV (w : World) (base : Nat) (v : Value) (L : List PerV) : Prop := w.ownsRow base 24 3 v L.length (flatsPerV L)
theorem OwnPerV.on {w W : World} {B : Nat} {v : Value} {L : List PerV} (h : OwnPerV w B v L) (hb : Below w.heap.size w W) : OwnPerV W B v L :=
  World.ownsRow.kept (row := none) h ⟨hb.os, hb.tape, hb.output, hb.size, fun k hk _ => hb.block k hk⟩ (by
    rcases h.2 with ⟨rfl, _⟩ | ⟨g, c, cur, rfl, _⟩
    · exact .inl rfl
    · exact .inr (by simp [Value.ownBlock]))
theorem OwnPerV.less {w : World} {B B' : Nat} {v : Value} {L : List PerV} (h : OwnPerV w B v L) (hB : B' ≤ B) : OwnPerV w B' v L := by
  refine ⟨h.1, ?_⟩
  rcases h.2 with h | ⟨g, c, cur, h1, h2, h3⟩
  · exact .inl h
  · exact .inr ⟨g, c, cur, h1, Nat.le_trans hB h2, h3⟩
theorem OwnPerV.form {w : World} {B : Nat} {v : Value} {L : List PerV} (h : OwnPerV w B v L) : ∃ A c, v = .slice A L.length c ∧ RowPerV w A L ∧ (A = none → L = []) := by
  rcases h.2 with ⟨rfl, h0⟩ | ⟨g, c, cur, rfl, hB, hh, hc, hm, hcs, ht⟩
  · have : L = [] := List.eq_nil_of_length_eq_zero h0
    subst this
    exact ⟨none, 0, rfl, RowPerV.nil, fun _ => rfl⟩
  · refine ⟨_, c, rfl, fun hn => ⟨g, 0, rfl, heapLt hh, fun j v hv => ?_⟩, fun e => by cases e⟩
    have := World.ownsRow.cells (g := g) h rfl j v hv
    rwa [Addr.add_mid] at this
theorem RowPerV.range {w : World} {a : Addr} {L : List PerV} (hr : RowPerV w (some a) L) : ∀ j u, (flatsPerV L)[j]? = some u → w.cell? (a.add j) = some u := fun j u hu => by
  have hne : L ≠ [] := by
    intro e; subst e; simp [flatsPerV] at hu
  obtain ⟨b, o, e, _, hra⟩ := hr hne
  injection e with e
  subst e
  rw [Addr.add_mid]
  exact hra j u hu
/-- to a row that is full -/
theorem appendPerV_full (w : World) (A : Option Addr) (L M : List PerV) (hr : RowPerV w A L) (hA : A = none → L = []) (a : Addr) (c : Nat) (hm : RowPerV w (some a) M) (hM : M ≠ []) (hl : (L.length + M.length) * 24 ≤ 140737488355328) :
    ∃ v' w', (Builtin.append_ #[49, 49] 49 #[.slice A L.length L.length, .slice (some a) M.length c]).run Try.prog w = .ok v' w' ∧ OwnPerV w' w.heap.size v' (L ++ M) ∧ w.grownBy w' none := by
  obtain ⟨i0, hi, hz0, hz1, hz2⟩ := info_parts factPerV
  have hMl : 0 < M.length := List.length_pos_iff.2 hM
  have e : OwnPerV = fun w base v L => w.ownsRow base 24 3 v L.length (flatsPerV L) := rfl
  rw [e]
  simp only [flatsPerV_append, List.length_append]
  cases A with
  | none =>
    obtain rfl := hA rfl
    obtain ⟨v', w', h1, h2, h3, _⟩ := run_append_own (P := Try.prog) w w.heap.size 49 49 24 i0 _ 3 24 Try.underlying49 hi hz0 hz1 hz2 rfl (by decide) (.slice none 0 0) 0 [] (World.ownsRow_nil w _ _ 3) a M.length c (flatsPerV M) (by rw [flatsPerV_len]; omega) hm.range (flatsPerV_one M) (by unfold maxLen; omega) (by simpa using hl) (Nat.le_refl _)
    exact ⟨v', w', h1, h2, h3⟩
  | some b =>
    obtain ⟨v', w', h1, h2, h3⟩ := run_append_arg_grows (P := Try.prog) w 49 49 24 i0 _ 3 24 Try.underlying49 hi hz0 hz1 hz2 rfl (by decide) b L.length L.length (flatsPerV L) (by rw [flatsPerV_len]; omega) hr.range a M.length c (flatsPerV M) (by rw [flatsPerV_len]; omega) hm.range (by omega) (by unfold maxLen; omega) hl
    exact ⟨v', w', h1, h2, h3⟩
theorem wp_appendPerV_full (w : World) {o : Oper} {a : Act} {K : Act → World → Prop} {Q : Exit → Act → World → Prop} (s x : Operand)
    (ho : o.op = .call { callee := .builtin .append, args := #[s, x], argTypes := #[49, 49] }) (hty : o.type = 49) (A : Option Addr) (L : List PerV) (hs : a.eval s = .slice A L.length L.length) (hr : RowPerV w A L) (hA : A = none → L = [])
    (p : Addr) (n c : Nat) (M : List PerV) (hx : a.eval x = .slice (some p) n c) (hn : M.length = n) (hm : RowPerV w (some p) M) (hM : M ≠ []) (hl : (L.length + M.length) * 24 ≤ 140737488355328)
    (h : ∀ A' c' w', RowPerV w' A' (L ++ M) → Below w.heap.size w w' → K (a.put o.dst (.slice A' (L.length + n) c')) w') : o.wp Try.prog a w K Q := by
  subst hn
  obtain ⟨v', w', hrun, h2, h3⟩ := appendPerV_full w A L M hr hA p c hm hM hl
  obtain ⟨A', c', rfl, hr', _⟩ := h2.form
  rw [List.length_append] at hrun
  have hb : Below w.heap.size w w' := (Below.refl _ _).grown h3 (Nat.le_refl _) (by simp)
  unfold Oper.wp execOp
  simp only [ho, hty, resolve, invoke, builtin, Sem.run_bind, Sem.run_pure, Result.andThen_ok, List.map_toArray, List.map_cons, List.map_nil, hs, hx, hrun]
  exact h A' c' w' hr' hb
theorem ownPerV_nil (w : World) : OwnPerV (w.alloc (.cells #[] 24)) w.heap.size (.slice (some ⟨w.heap.size, 0, none⟩) 0 0) [] :=
  World.ownsRow_lit w (e := 24) (base := w.heap.size) (size := 3) #[] 0 (Nat.le_refl _) (by unfold maxLen; omega) rfl
/-- what is appended to it, be the source nil or not -/
theorem append_per (w : World) (base : Nat) (v : Value) (L M : List PerV) (hown : OwnPerV w base v L) (A : Option Addr) (c : Nat) (hr : RowPerV w A M) (hA : A = none → M = []) (hl : L.length + M.length ≤ 1000) (hb : base ≤ w.heap.size) :
    ∃ v' w', (Builtin.append_ #[49, 49] 49 #[v, .slice A M.length c]).run Try.prog w = .ok v' w' ∧ OwnPerV w' base v' (L ++ M) ∧ w.grownBy w' v.ownBlock := by
  obtain ⟨i0, hi, hz0, hz1, hz2⟩ := info_parts factPerV
  cases A with
  | none =>
    obtain rfl := hA rfl
    refine ⟨v, w, ?_, by simpa using hown, World.grownBy.refl w _⟩
    rcases hown.2 with ⟨rfl, h0⟩ | ⟨g, cap, cur, rfl, _, _, hnc, _⟩
    · simp [Builtin.append_, run_underlying Try.underlying49, sizeOf, typeInfo, hi, Builtin.lenOf, Builtin.firstCells]
    · simp [Builtin.append_, run_underlying Try.underlying49, sizeOf, typeInfo, hi, Builtin.lenOf, Builtin.firstCells, hnc, storeCells]
  | some a =>
    have hnews : ∀ j u, (flatsPerV M)[j]? = some u → w.cell? (a.add j) = some u := fun j u hu => by
      have hne : M ≠ [] := by
        intro e; subst e; simp [flatsPerV] at hu
      obtain ⟨b, o, e, _, hra⟩ := hr hne
      injection e with e
      subst e
      rw [Addr.add_mid]
      exact hra j u hu
    obtain ⟨v', w', h1, h2, h3, _⟩ := run_append_own (P := Try.prog) w base 49 49 24 i0 _ 3 24 Try.underlying49 hi hz0 hz1 hz2 rfl (by decide) v L.length (flatsPerV L) hown a M.length c (flatsPerV M) (by rw [flatsPerV_len]; omega) hnews (flatsPerV_one M) (by unfold maxLen; omega) (by omega) hb
    refine ⟨v', w', h1, ?_, h3⟩
    unfold OwnPerV
    rw [flatsPerV_append, List.length_append]
    exact h2
theorem wp_append_per (w : World) {o : Oper} {a : Act} {K : Act → World → Prop} {Q : Exit → Act → World → Prop} (s x : Operand)
    (ho : o.op = .call { callee := .builtin .append, args := #[s, x], argTypes := #[49, 49] }) (hty : o.type = 49) (base : Nat) (v : Value) (L : List PerV) (hs : a.eval s = v) (hown : OwnPerV w base v L)
    (A : Option Addr) (n c : Nat) (M : List PerV) (hx : a.eval x = .slice A n c) (hn : M.length = n) (hr : RowPerV w A M) (hA : A = none → M = []) (hl : L.length + M.length ≤ 1000) (hb : base ≤ w.heap.size)
    (h : ∀ v' w', OwnPerV w' base v' (L ++ M) → w.grownBy w' v.ownBlock → K (a.put o.dst v') w') : o.wp Try.prog a w K Q := by
  subst hn
  obtain ⟨v', w', hrun, h2, h3⟩ := append_per w base v L M hown A c hr hA hl hb
  unfold Oper.wp execOp
  simp only [ho, hty, resolve, invoke, builtin, Sem.run_bind, Sem.run_pure, Result.andThen_ok, List.map_toArray, List.map_cons, List.map_nil, hs, hx, hrun]
  exact h v' w' h2 h3

theorem cellsOfStepV : Try.prog.cellsOf 26 = 4 := by kernel_rfl
theorem bytesOfStepV : Try.prog.bytesOf 26 = 32 := by kernel_rfl
section
variable {H : Type} {enc : TypeId × Value → H} {W : World} {base : Nat} {sp : Nat → Bool} {held : Bool}
theorem ofStepV_1 {fuel : Nat} {cs : List Value} {x : DataW H × List MemPlace} (h : DataW.trod enc Try.prog W base sp held fuel 24 cs = some x) (hl : cs.length = 3) : ∃ o : Int × Int × Int, cs = [.int .i64 o.1, .int .i64 o.2.1, .int .i64 o.2.2] ∧ (True) := by
  match cs, hl with
  | [c0, c1, c2], _ =>
    obtain ⟨y0, y1, y2, n, _, _, h0, h1, h2⟩ := trod_struct3 Try.underlying24 h
    have hcint : Try.prog.cellsOf 3 = 1 := by kernel_rfl
    obtain ⟨q0, e0, _, _⟩ := DataW.trod_int Try.underlying3 h0
    rw [hcint] at e0
    obtain ⟨q1, e1, _, _⟩ := DataW.trod_int Try.underlying3 h1
    rw [hcint] at e1
    obtain ⟨q2, e2, _, _⟩ := DataW.trod_int Try.underlying3 h2
    rw [hcint] at e2
    simp at e0 e1 e2
    subst e0
    subst e1
    subst e2
    exact ⟨(q0, q1, q2), rfl, trivial⟩
theorem ofStepV {fuel : Nat} {cs : List Value} {x : DataW H × List MemPlace} (h : DataW.trod enc Try.prog W base sp held fuel 26 cs = some x) (hl : cs.length = 4) : ∃ o : Int × Int × Int × Int, cs = [.int .i64 o.1, .int .i64 o.2.1, .int .i64 o.2.2.1, .int .i64 o.2.2.2] ∧ (True) := by
  match cs, hl with
  | [c0, c1, c2, c3], _ =>
    obtain ⟨y0, y1, n, _, _, h0, h1⟩ := trod_struct2 Try.underlying26 h
    have hcint : Try.prog.cellsOf 3 = 1 := by kernel_rfl
    obtain ⟨q0, e0, _, _⟩ := DataW.trod_int Try.underlying3 h0
    rw [hcint] at e0
    have hcs1 : Try.prog.cellsOf 24 = 3 := by kernel_rfl
    rw [hcs1] at h1
    obtain ⟨q1, e1, w1⟩ := ofStepV_1 h1 (by simp)
    simp at e0 e1
    subst e0
    obtain ⟨rfl, rfl, rfl⟩ := e1
    exact ⟨(q0, q1.1, q1.2.1, q1.2.2), rfl, trivial⟩
theorem openStepV {r : Reach} {b0 : Nat} {v : Value} {d : DataW H} {p : List MemPlace} (hv : Value.okWide Try.prog W r b0 26 v)
    (h : DataW.Trod enc Try.prog W base sp held 26 v d p) : ∃ x : StepV, v = .agg #[.int .i64 x.1, .int .i64 x.2.1, .int .i64 x.2.2.1, .int .i64 x.2.2.2] ∧ (True) := by
  obtain ⟨cs, rfl, hsz⟩ := okWide_struct Try.underlying26 hv
  obtain ⟨fuel, hf⟩ := h
  obtain ⟨o, ho, hw⟩ := ofStepV (cs := cs.toList) (by simpa [Value.cells] using hf) (by rw [Array.length_toList, hsz, cellsOfStepV])
  refine ⟨o, ?_, hw⟩
  congr 1
  apply Array.ext'
  rw [ho]
theorem openStepVs {r : Reach} {b0 : Nat} {v : Value} {d : DataW H} {p : List MemPlace} (hv : Value.okWide Try.prog W r b0 22 v) (h : DataW.Trod enc Try.prog W base (fun _ => true) held 22 v d p) :
    ∃ (A : Option Addr) (L : List StepV) (c : Nat), v = .slice A L.length c ∧ RowStepV W A L ∧ (A = none → L = [] ∧ c = 0) ∧ L.length ≤ c ∧ (∀ x ∈ L, True) ∧ (d = .nil ∧ L = [] ∨ ∃ els spr, d = .slice els spr ∧ els.length = L.length) := by
  obtain ⟨a, n, c, rfl⟩ := okWide_slice Try.underlying22 hv
  obtain ⟨fuel, hf⟩ := h
  rcases open_slice Try.underlying22 (by simpa [Value.cells] using hf) with ⟨hcs, hx⟩ | ⟨y, len, cap, m, k, D, Pl, hcs, _, hl, hm, hm', hx, hi⟩
  · simp at hcs hx
    obtain ⟨rfl, rfl, rfl⟩ := hcs
    exact ⟨none, [], 0, rfl, RowStepV.nil, fun _ => ⟨rfl, rfl⟩, Nat.le_refl _, fun x hx => absurd hx (by simp), .inl ⟨hx.1, rfl⟩⟩
  · simp only [Prod.mk.injEq] at hx
    simp at hcs
    obtain ⟨rfl, rfl, rfl⟩ := hcs
    have hnm : n ≤ m := by
      rw [hm']
      simpa using hl
    rw [cellsOfStepV] at hi
    by_cases hz : n = 0
    · subst hz
      exact ⟨some y, [], c, rfl, RowStepV.nil, fun h => (by cases h), Nat.zero_le _, fun x hx => absurd hx (by simp), .inr ⟨_, _, hx.1, by simp⟩⟩
    have each0 : ∀ i : Nat, i < n → ∃ o : StepV, (W.cell? ((y.add (i * 4)).add 0) = some (.int .i64 o.1) ∧ W.cell? ((y.add (i * 4)).add 1) = some (.int .i64 o.2.1) ∧ W.cell? ((y.add (i * 4)).add 2) = some (.int .i64 o.2.2.1) ∧ W.cell? ((y.add (i * 4)).add 3) = some (.int .i64 o.2.2.2)) ∧ (True) := fun i hin => by
      obtain ⟨cs', hc, ht⟩ := hi i (by omega)
      obtain ⟨_, hcl, hat⟩ := World.cells?_some hc
      obtain ⟨o, rfl, hw⟩ := ofStepV ht hcl
      exact ⟨o, ⟨hat 0 (by decide), hat 1 (by decide), hat 2 (by decide), hat 3 (by decide)⟩, hw⟩
    obtain ⟨b, off, spot⟩ := y
    have hspot : spot = none := by
      obtain ⟨o, ⟨g0, _⟩, _⟩ := each0 0 (by omega)
      simpa [Addr.add] using World.cell?_spot g0
    subst hspot
    have e : ∀ i j : Nat, ((⟨b, off, none⟩ : Addr).add (i * 4)).add j = ⟨b, off + i * 4 + j, none⟩ := fun i j => by
      rw [Addr.add_mid, Addr.add_mid]
    have each : ∀ i : Fin n, ∃ o : StepV, (W.cell? ⟨b, off + i.val * 4, none⟩ = some (.int .i64 o.1) ∧ W.cell? ⟨b, off + i.val * 4 + 1, none⟩ = some (.int .i64 o.2.1) ∧ W.cell? ⟨b, off + i.val * 4 + 2, none⟩ = some (.int .i64 o.2.2.1) ∧ W.cell? ⟨b, off + i.val * 4 + 3, none⟩ = some (.int .i64 o.2.2.2)) ∧ (True) := fun i => by
      obtain ⟨o, ⟨h0, h1, h2, h3⟩, hw⟩ := each0 i.val i.isLt
      rw [e] at h0 h1 h2 h3
      exact ⟨o, ⟨h0, h1, h2, h3⟩, hw⟩
    have hL : (List.ofFn fun i => Classical.choose (each i)).length = n := List.length_ofFn
    refine ⟨some ⟨b, off, none⟩, List.ofFn fun i => Classical.choose (each i), c, by rw [hL], fun _ => ⟨b, off, rfl, ?_, ?_⟩, fun h => (by cases h), by rw [hL]; exact hl, ?_, .inr ⟨_, _, hx.1, by rw [hL]; simp⟩⟩
    · obtain ⟨o, ⟨h0, _⟩, _⟩ := each ⟨0, by omega⟩
      exact block_lt_of_cell h0
    · intro j v hv
      have hj := (List.getElem?_eq_some_iff.1 hv).1
      rw [flatsStepV_len, hL] at hj
      have hq : j / 4 < n := by omega
      obtain ⟨⟨h0, h1, h2, h3⟩, _⟩ := Classical.choose_spec (each ⟨j / 4, hq⟩)
      obtain ⟨g0, g1, g2, g3⟩ := flatsStepV_at (List.ofFn fun i => Classical.choose (each i)) (j / 4) (by rw [hL]; exact hq)
      rw [List.getElem_ofFn] at g0 g1 g2 g3
      have hr : j = 4 * (j / 4) ∨ j = 4 * (j / 4) + 1 ∨ j = 4 * (j / 4) + 2 ∨ j = 4 * (j / 4) + 3 := by omega
      rcases hr with hr | hr | hr | hr
      · rw [hr, g0] at hv
        injection hv with hv
        subst hv
        rw [show off + j = off + j / 4 * 4 by omega]
        exact h0
      · rw [hr, g1] at hv
        injection hv with hv
        subst hv
        rw [show off + j = off + j / 4 * 4 + 1 by omega]
        exact h1
      · rw [hr, g2] at hv
        injection hv with hv
        subst hv
        rw [show off + j = off + j / 4 * 4 + 2 by omega]
        exact h2
      · rw [hr, g3] at hv
        injection hv with hv
        subst hv
        rw [show off + j = off + j / 4 * 4 + 3 by omega]
        exact h3
    · intro x hx
      obtain ⟨i, rfl⟩ := List.mem_ofFn.1 hx
      exact (Classical.choose_spec (each i)).2
end
section
variable {H : Type} {enc : TypeId × Value → H} {W : World} {base : Nat} {sp : Nat → Bool} {held : Bool}
theorem openPerV {r : Reach} {b0 : Nat} {v : Value} {d : DataW H} {p : List MemPlace} (hv : Value.okWide Try.prog W r b0 24 v)
    (h : DataW.Trod enc Try.prog W base sp held 24 v d p) : ∃ x : PerV, v = .agg #[.int .i64 x.1, .int .i64 x.2.1, .int .i64 x.2.2] ∧ True := by
  obtain ⟨cs, rfl, hsz⟩ := okWide_struct Try.underlying24 hv
  obtain ⟨fuel, hf⟩ := h
  obtain ⟨o, ho, hw⟩ := ofStepV_1 (cs := cs.toList) (by simpa [Value.cells] using hf) (by rw [Array.length_toList, hsz]; kernel_rfl)
  refine ⟨o, ?_, hw⟩
  congr 1
  apply Array.ext'
  rw [ho]
end
end Go.Proofs.Ytdacpiegfobhbaa
