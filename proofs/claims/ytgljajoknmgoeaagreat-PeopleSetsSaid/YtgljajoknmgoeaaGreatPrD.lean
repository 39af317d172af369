/- The document's people: a row of what was set. -/
import Derived.Test.YtgljajoknmgoeaaGreatPrU
import Derived.Test.YtgljajoknmgoeaaGreatPpI
import Derived.ArgAppend
namespace Go.Proofs.YtgljajoknmgoeaaGreat
open Go.RowKit
set_option maxRecDepth 100000

abbrev St := ByteArray × Sp
def flatSt (p : St) : List Value := [.string p.1, .int .i64 p.2.1, .int .i64 p.2.2.1, .int .i64 p.2.2.2]
def flatsSt (L : List St) : List Value := L.flatMap flatSt
theorem flatsSt_len (L : List St) : (flatsSt L).length = 4 * L.length := by
  induction L with
  | nil => rfl
  | cons p L ih =>
    have e : flatsSt (p :: L) = flatSt p ++ flatsSt L := rfl
    rw [e, List.length_append, ih]
    simp [flatSt]
    omega
theorem flatsSt_append (L M : List St) : flatsSt (L ++ M) = flatsSt L ++ flatsSt M := List.flatMap_append
theorem flatsSt_one (M : List St) : ∀ u ∈ flatsSt M, u.oneCell' = true := by
  intro u hu
  obtain ⟨p, _, hp⟩ := List.mem_flatMap.1 hu
  simp only [flatSt, List.mem_cons, List.not_mem_nil, or_false] at hp
  rcases hp with rfl | rfl | rfl | rfl <;> rfl
theorem flatsSt_at (L : List St) : ∀ (i : Nat) (h : i < L.length), (flatsSt L)[4 * i]? = some (.string L[i].1) ∧ (flatsSt L)[4 * i + 1]? = some (.int .i64 L[i].2.1) ∧ (flatsSt L)[4 * i + 2]? = some (.int .i64 L[i].2.2.1) ∧ (flatsSt L)[4 * i + 3]? = some (.int .i64 L[i].2.2.2) := by
  induction L with
  | nil => intro i h; simp at h
  | cons p L ih =>
    intro i h
    have e : flatsSt (p :: L) = flatSt p ++ flatsSt L := rfl
    rw [e]
    cases i with
    | zero => exact ⟨rfl, rfl, rfl, rfl⟩
    | succ i =>
      obtain ⟨h0, h1, h2, h3⟩ := ih i (by simpa using h)
      have hl : (flatSt p).length = 4 := rfl
      refine ⟨?_, ?_, ?_, ?_⟩
      · rw [List.getElem?_append_right (by rw [hl]; omega), hl, show 4 * (i + 1) - 4 = 4 * i by omega]; simpa using h0
      · rw [List.getElem?_append_right (by rw [hl]; omega), hl, show 4 * (i + 1) + 1 - 4 = 4 * i + 1 by omega]; simpa using h1
      · rw [List.getElem?_append_right (by rw [hl]; omega), hl, show 4 * (i + 1) + 2 - 4 = 4 * i + 2 by omega]; simpa using h2
      · rw [List.getElem?_append_right (by rw [hl]; omega), hl, show 4 * (i + 1) + 3 - 4 = 4 * i + 3 by omega]; simpa using h3
/-- at that address they lie, one behind the other; of none nothing is asked -/
def RowSt (w : World) (A : Option Addr) (L : List St) : Prop :=
  L ≠ [] → ∃ b o, A = some ⟨b, o, none⟩ ∧ b < w.heap.size ∧ w.rangeAt b o (flatsSt L)
theorem RowSt.on {w W : World} {A : Option Addr} {L : List St} (h : RowSt w A L) (hb : Below w.heap.size w W) : RowSt W A L := fun hn => by
  obtain ⟨b, o, e, hl, hr⟩ := h hn
  exact ⟨b, o, e, Nat.lt_of_lt_of_le hl hb.size, fun j v hv => cell_on hb (hr j v hv)⟩
theorem RowSt.nil {w : World} {A : Option Addr} : RowSt w A [] := fun h => absurd rfl h
theorem RowSt.at_ {w : World} {A : Option Addr} {L : List St} (h : RowSt w A L) (i : Nat) (hi : i < L.length) : ∃ b o, A = some ⟨b, o, none⟩ ∧ b < w.heap.size ∧
    w.cell? ⟨b, o + i * 4, none⟩ = some (.string L[i].1) ∧ w.cell? ⟨b, o + i * 4 + 1, none⟩ = some (.int .i64 L[i].2.1) ∧ w.cell? ⟨b, o + i * 4 + 2, none⟩ = some (.int .i64 L[i].2.2.1) ∧ w.cell? ⟨b, o + i * 4 + 3, none⟩ = some (.int .i64 L[i].2.2.2) := by
  obtain ⟨b, o, e, hl, hr⟩ := h (by intro h0; subst h0; simp at hi)
  obtain ⟨h0, h1, h2, h3⟩ := flatsSt_at L i hi
  have g0 := hr _ _ h0
  have g1 := hr _ _ h1
  have g2 := hr _ _ h2
  have g3 := hr _ _ h3
  rw [← Nat.add_assoc] at g1 g2 g3
  rw [Nat.mul_comm 4 i] at g0 g1 g2 g3
  exact ⟨b, o, e, hl, g0, g1, g2, g3⟩
theorem boxSt {W : World} {g : Nat} {p : St} {t : TypeId} (h : W.heap[g]? = some (.cells #[.string p.1, .int .i64 p.2.1, .int .i64 p.2.2.1, .int .i64 p.2.2.2] t (0, 0))) : RowSt W (some ⟨g, 0, none⟩) [p] := fun _ => ⟨g, 0, rfl, heapLt h, fun j v hv => by
  match j with
  | 0 => simp [flatsSt, flatSt] at hv; subst hv; rw [cell_of_row W g 0 _ _ _ h]; rfl
  | 1 => simp [flatsSt, flatSt] at hv; subst hv; rw [cell_of_row W g 1 _ _ _ h]; rfl
  | 2 => simp [flatsSt, flatSt] at hv; subst hv; rw [cell_of_row W g 2 _ _ _ h]; rfl
  | 3 => simp [flatsSt, flatSt] at hv; subst hv; rw [cell_of_row W g 3 _ _ _ h]; rfl
  | j + 4 => simp [flatsSt, flatSt] at hv⟩
theorem cellsSt {W : World} {g : Nat} {v0 v1 v2 v3 : Value} {t : TypeId} (h : W.heap[g]? = some (.cells #[v0, v1, v2, v3] t (0, 0))) : W.cell? ⟨g, 0, none⟩ = some v0 ∧ W.cell? ⟨g, 1, none⟩ = some v1 ∧ W.cell? ⟨g, 2, none⟩ = some v2 ∧ W.cell? ⟨g, 3, none⟩ = some v3 :=
  ⟨cell_of_row W g 0 _ _ _ h, cell_of_row W g 1 _ _ _ h, cell_of_row W g 2 _ _ _ h, cell_of_row W g 3 _ _ _ h⟩
theorem factSt : (Tryz.prog.info? 69).map (fun i => (i.zero, i.size, i.bytes)) = some (some (.agg #[.string ⟨#[]⟩, .int .i64 0, .int .i64 0, .int .i64 0]), 4, 40) := by kernel_rfl
/-- a row of the call's own -/
def OwnSt (w : World) (base : Nat) (v : Value) (L : List St) : Prop := w.ownsRow base 69 4 v L.length (flatsSt L)
theorem OwnSt.on {w W : World} {B : Nat} {v : Value} {L : List St} (h : OwnSt w B v L) (hb : Below w.heap.size w W) : OwnSt W B v L :=
  World.ownsRow.kept (row := none) h ⟨hb.os, hb.tape, hb.output, hb.size, fun k hk _ => hb.block k hk⟩ (by
    rcases h.2 with ⟨rfl, _⟩ | ⟨g, c, cur, rfl, _⟩
    · exact .inl rfl
    · exact .inr (by simp [Value.ownBlock]))
theorem OwnSt.less {w : World} {B B' : Nat} {v : Value} {L : List St} (h : OwnSt w B v L) (hB : B' ≤ B) : OwnSt w B' v L := by
  refine ⟨h.1, ?_⟩
  rcases h.2 with h | ⟨g, c, cur, h1, h2, h3⟩
  · exact .inl h
  · exact .inr ⟨g, c, cur, h1, Nat.le_trans hB h2, h3⟩
theorem OwnSt.form {w : World} {B : Nat} {v : Value} {L : List St} (h : OwnSt w B v L) : ∃ A c, v = .slice A L.length c ∧ RowSt w A L ∧ (A = none → L = []) := by
  rcases h.2 with ⟨rfl, h0⟩ | ⟨g, c, cur, rfl, hB, hh, hc, hm, hcs, ht⟩
  · have : L = [] := List.eq_nil_of_length_eq_zero h0
    subst this
    exact ⟨none, 0, rfl, RowSt.nil, fun _ => rfl⟩
  · refine ⟨_, c, rfl, fun hn => ⟨g, 0, rfl, heapLt hh, fun j v hv => ?_⟩, fun e => by cases e⟩
    have := World.ownsRow.cells (g := g) h rfl j v hv
    rwa [Addr.add_mid] at this
theorem RowSt.range {w : World} {a : Addr} {L : List St} (hr : RowSt w (some a) L) : ∀ j u, (flatsSt L)[j]? = some u → w.cell? (a.add j) = some u := fun j u hu => by
  have hne : L ≠ [] := by
    intro e; subst e; simp [flatsSt] at hu
  obtain ⟨b, o, e, _, hra⟩ := hr hne
  injection e with e
  subst e
  rw [Addr.add_mid]
  exact hra j u hu
/-- to a row that is full -/
theorem appendSt_full (w : World) (A : Option Addr) (L M : List St) (hr : RowSt w A L) (hA : A = none → L = []) (a : Addr) (c : Nat) (hm : RowSt w (some a) M) (hM : M ≠ []) (hl : (L.length + M.length) * 40 ≤ 140737488355328) :
    ∃ v' w', (Builtin.append_ #[33, 33] 33 #[.slice A L.length L.length, .slice (some a) M.length c]).run Tryz.prog w = .ok v' w' ∧ OwnSt w' w.heap.size v' (L ++ M) ∧ w.grownBy w' none := by
  obtain ⟨i0, hi, hz0, hz1, hz2⟩ := info_parts factSt
  have hMl : 0 < M.length := List.length_pos_iff.2 hM
  have e : OwnSt = fun w base v L => w.ownsRow base 69 4 v L.length (flatsSt L) := rfl
  rw [e]
  simp only [flatsSt_append, List.length_append]
  cases A with
  | none =>
    obtain rfl := hA rfl
    obtain ⟨v', w', h1, h2, h3, _⟩ := run_append_own (P := Tryz.prog) w w.heap.size 33 33 69 i0 _ 4 40 Tryz.underlying33 hi hz0 hz1 hz2 rfl (by decide) (.slice none 0 0) 0 [] (World.ownsRow_nil w _ _ 4) a M.length c (flatsSt M) (by rw [flatsSt_len]; omega) hm.range (flatsSt_one M) (by unfold maxLen; omega) (by simpa using hl) (Nat.le_refl _)
    exact ⟨v', w', h1, h2, h3⟩
  | some b =>
    obtain ⟨v', w', h1, h2, h3⟩ := run_append_arg_grows (P := Tryz.prog) w 33 33 69 i0 _ 4 40 Tryz.underlying33 hi hz0 hz1 hz2 rfl (by decide) b L.length L.length (flatsSt L) (by rw [flatsSt_len]; omega) hr.range a M.length c (flatsSt M) (by rw [flatsSt_len]; omega) hm.range (by omega) (by unfold maxLen; omega) hl
    exact ⟨v', w', h1, h2, h3⟩
theorem wp_appendSt_full (w : World) {o : Oper} {a : Act} {K : Act → World → Prop} {Q : Exit → Act → World → Prop} (s x : Operand)
    (ho : o.op = .call { callee := .builtin .append, args := #[s, x], argTypes := #[33, 33] }) (hty : o.type = 33) (A : Option Addr) (L : List St) (hs : a.eval s = .slice A L.length L.length) (hr : RowSt w A L) (hA : A = none → L = [])
    (p : Addr) (n c : Nat) (M : List St) (hx : a.eval x = .slice (some p) n c) (hn : M.length = n) (hm : RowSt w (some p) M) (hM : M ≠ []) (hl : (L.length + M.length) * 40 ≤ 140737488355328)
    (h : ∀ A' c' w', RowSt w' A' (L ++ M) → Below w.heap.size w w' → K (a.put o.dst (.slice A' (L.length + n) c')) w') : o.wp Tryz.prog a w K Q := by
  subst hn
  obtain ⟨v', w', hrun, h2, h3⟩ := appendSt_full w A L M hr hA p c hm hM hl
  obtain ⟨A', c', rfl, hr', _⟩ := h2.form
  rw [List.length_append] at hrun
  have hb : Below w.heap.size w w' := (Below.refl _ _).grown h3 (Nat.le_refl _) (by simp)
  unfold Oper.wp execOp
  simp only [ho, hty, resolve, invoke, builtin, Sem.run_bind, Sem.run_pure, Result.andThen_ok, List.map_toArray, List.map_cons, List.map_nil, hs, hx, hrun]
  exact h A' c' w' hr' hb
theorem ownSt_nil (w : World) : OwnSt (w.alloc (.cells #[] 69)) w.heap.size (.slice (some ⟨w.heap.size, 0, none⟩) 0 0) [] :=
  World.ownsRow_lit w (e := 69) (base := w.heap.size) (size := 4) #[] 0 (Nat.le_refl _) (by unfold maxLen; omega) rfl
/-- what is appended to it, be the source nil or not -/
theorem append_st (w : World) (base : Nat) (v : Value) (L M : List St) (hown : OwnSt w base v L) (A : Option Addr) (c : Nat) (hr : RowSt w A M) (hA : A = none → M = []) (hl : L.length + M.length ≤ 1000) (hb : base ≤ w.heap.size) :
    ∃ v' w', (Builtin.append_ #[33, 33] 33 #[v, .slice A M.length c]).run Tryz.prog w = .ok v' w' ∧ OwnSt w' base v' (L ++ M) ∧ w.grownBy w' v.ownBlock := by
  obtain ⟨i0, hi, hz0, hz1, hz2⟩ := info_parts factSt
  cases A with
  | none =>
    obtain rfl := hA rfl
    refine ⟨v, w, ?_, by simpa using hown, World.grownBy.refl w _⟩
    rcases hown.2 with ⟨rfl, h0⟩ | ⟨g, cap, cur, rfl, _, _, hnc, _⟩
    · simp [Builtin.append_, run_underlying Tryz.underlying33, sizeOf, typeInfo, hi, Builtin.lenOf, Builtin.firstCells]
    · simp [Builtin.append_, run_underlying Tryz.underlying33, sizeOf, typeInfo, hi, Builtin.lenOf, Builtin.firstCells, hnc, storeCells]
  | some a =>
    have hnews : ∀ j u, (flatsSt M)[j]? = some u → w.cell? (a.add j) = some u := fun j u hu => by
      have hne : M ≠ [] := by
        intro e; subst e; simp [flatsSt] at hu
      obtain ⟨b, o, e, _, hra⟩ := hr hne
      injection e with e
      subst e
      rw [Addr.add_mid]
      exact hra j u hu
    obtain ⟨v', w', h1, h2, h3, _⟩ := run_append_own (P := Tryz.prog) w base 33 33 69 i0 _ 4 40 Tryz.underlying33 hi hz0 hz1 hz2 rfl (by decide) v L.length (flatsSt L) hown a M.length c (flatsSt M) (by rw [flatsSt_len]; omega) hnews (flatsSt_one M) (by unfold maxLen; omega) (by omega) hb
    refine ⟨v', w', h1, ?_, h3⟩
    unfold OwnSt
    rw [flatsSt_append, List.length_append]
    exact h2
theorem wp_append_st (w : World) {o : Oper} {a : Act} {K : Act → World → Prop} {Q : Exit → Act → World → Prop} (s x : Operand)
    (ho : o.op = .call { callee := .builtin .append, args := #[s, x], argTypes := #[33, 33] }) (hty : o.type = 33) (base : Nat) (v : Value) (L : List St) (hs : a.eval s = v) (hown : OwnSt w base v L)
    (A : Option Addr) (n c : Nat) (M : List St) (hx : a.eval x = .slice A n c) (hn : M.length = n) (hr : RowSt w A M) (hA : A = none → M = []) (hl : L.length + M.length ≤ 1000) (hb : base ≤ w.heap.size)
    (h : ∀ v' w', OwnSt w' base v' (L ++ M) → w.grownBy w' v.ownBlock → K (a.put o.dst v') w') : o.wp Tryz.prog a w K Q := by
  subst hn
  obtain ⟨v', w', hrun, h2, h3⟩ := append_st w base v L M hown A c hr hA hl hb
  unfold Oper.wp execOp
  simp only [ho, hty, resolve, invoke, builtin, Sem.run_bind, Sem.run_pure, Result.andThen_ok, List.map_toArray, List.map_cons, List.map_nil, hs, hx, hrun]
  exact h v' w' h2 h3

end Go.Proofs.YtgljajoknmgoeaaGreat
