/- Slices of bytes told one by one into a variable, while a loop goes round. -/
import Derived.Test.YtfjejiapafdgeaaJ15
namespace Go.Proofs.Ytfjejiapafdgeaa
open Go.RowKit
set_option maxRecDepth 100000

theorem range_cells {w : World} {g : Nat} {l : Text} {t : TypeId} {fr : Nat × Nat} (hg : w.heap[g]? = some (.cells (l.map cellOf).toArray t fr)) : w.rangeAt g 0 (l.map cellOf) := by
  have := World.rangeAt_of_block hg 0 l.length
  have e : ((l.map cellOf).toArray.extract 0 (0 + l.length)).toList = l.map cellOf := by
    simp only [Nat.zero_add, List.extract_toArray, List.extract_eq_take_drop, List.drop_zero, Nat.sub_zero]
    exact List.take_of_length_le (by simp)
  rwa [e] at this
theorem wp_store_one {w : World} {o : Oper} {a : Act} {K : Act → World → Prop} {Q : Exit → Act → World → Prop} (T : TypeId) (x y : Operand) (ho : o.op = .store T x y) (g : Nat) (hx : a.eval x = .pointer (some ⟨g, 0, none⟩)) (u : Value)
    (hsz : (Try.prog.info? T).map (·.size) = some 1) (hu : u.cells = #[u]) (h1 : u.oneCell' = true) (hy : a.eval y = u) (c : Value) (t : TypeId) (hg : w.heap[g]? = some (.cells #[c] t (0, 0)))
    (h : K (a.put o.dst undef) (w.setRow g #[u])) : o.wp Try.prog a w K Q := by
  have hst := run_storeCells_at Try.prog g 0 t [u] 0 #[c] w hg (by simp) (fun v hv => by simp at hv; subst hv; exact h1)
  have e : ((#[c] : Array Value).toList.take (0 + 0) ++ [u] ++ (#[c] : Array Value).toList.drop (0 + 0 + ([u] : List Value).length)).toArray = #[u] := by simp
  rw [e] at hst
  have hs : (sizeOf T).run Try.prog w = .ok 1 w := by
    cases hq : Try.prog.info? T with
    | none => simp [hq] at hsz
    | some i =>
      have hz : i.size = 1 := by simpa [hq] using hsz
      simp [sizeOf, typeInfo, hq, hz]
  have e2 : (#[u] : Array Value).size = 1 := rfl
  unfold Oper.wp execOp
  simp only [ho, hx, hy, Instr.storeAt, Instr.sureAddr, Sem.run_bind, Sem.run_pure, Result.andThen_ok, storeVar, hu, hs, e2, ne_eq, not_true_eq_false, if_false]
  rw [hst]
  exact h
theorem others_below {A C : World} (h : Below A.heap.size A C) : KeepsOthers A C := ⟨h.size, fun k _ hk _ => (h.block k (heapLt hk)).trans hk⟩
theorem others_setRow {A : World} {g : Nat} {cs old : Array Value} {t : TypeId} {fr : Nat × Nat} (hg : A.heap[g]? = some (.cells old t fr)) : KeepsOthers A (A.setRow g cs) := ⟨by simp [World.setRow], fun k o hk ho => by
  by_cases e : k = g
  · subst e
    rw [hg] at hk
    injection hk with hk
    subst hk
    cases ho
  · exact (setRow_other _ _ _ _ e).trans hk⟩
theorem OwnT.others {B : Nat} {v : Value} {L : List Text} {W W' : World} (h : OwnT B v L W) (hg : W.grownBy W' v.ownBlock) : KeepsOthers W W' := by
  obtain ⟨xs, h1, _⟩ := h
  refine KeepsOthers.of_grownBy hg fun j o ej hj => ?_
  rcases h1.2 with ⟨rfl, _⟩ | ⟨g, cap, cur, rfl, _, hgg, _⟩
  · simp [Value.ownBlock] at ej
  · simp only [Value.ownBlock] at ej
    injection ej with ej
    subst ej
    rw [hgg] at hj
    injection hj with hj
    subst hj
    rfl
theorem OwnT.base {B : Nat} {v : Value} {L : List Text} {W : World} (h : OwnT B v L W) : ∀ k, v.ownBlock = some k → B ≤ k ∧ k < W.heap.size := by
  obtain ⟨xs, h1, _⟩ := h
  exact h1.lt
/-- a block that holds no cells is none of the row's -/
theorem OwnT.put {B : Nat} {v : Value} {L : List Text} {W W' : World} (h : OwnT B v L W) {g : Nat} {o : Obj} (hg : W.heap[g]? = some o) (ho : o.isCells = false) (hs : W'.heap.size = W.heap.size) (hk : ∀ k, k ≠ g → W'.heap[k]? = W.heap[k]?) : OwnT B v L W' := by
  refine h.turn g (by omega) (fun k _ hne => hk k hne) ?_ ?_
  · obtain ⟨xs, q1, _⟩ := h
    rcases q1.2 with ⟨rfl, _⟩ | ⟨g', cap, cur, rfl, _, hgg, _⟩
    · simp [Value.ownBlock]
    · simp only [Value.ownBlock]
      intro e
      injection e with e
      subst e
      rw [hg] at hgg
      injection hgg with hgg
      subst hgg
      cases ho
  · intro j hj b c xs q1 q2 q3 q4 e
    subst e
    have hc := q3 0 (cellOf (L[j][0]'q4)) (by simp [q4])
    unfold World.cell? at hc
    rw [hg] at hc
    cases o <;> first | (cases ho; done) | (cases hc; done)
/-- a cell that holds a slice turned is none of the row's, where the row is another block -/
theorem OwnT.cellPut {B : Nat} {v : Value} {L : List Text} {W : World} (h : OwnT B v L W) {g : Nat} {A : Option Addr} {n c : Nat} {t : TypeId} {fr : Nat × Nat} (hg : W.heap[g]? = some (.cells #[.slice A n c] t fr)) (hv : v.ownBlock ≠ some g) (u : Array Value) : OwnT B v L (W.setRow g u) := by
  refine h.turn g (by simp [World.setRow]) (fun k _ hne => setRow_other _ _ _ _ hne) hv ?_
  intro j hj b c' xs q1 q2 q3 q4 e
  subst e
  have hc := q3 0 (cellOf (L[j][0]'q4)) (by simp [q4])
  rw [cell_of_row _ _ _ _ _ _ hg] at hc
  simp [cellOf] at hc

/-- what is told so far, kept in a variable's cell; blocks 'Av' are no part of it; a sector stands beside it -/
def ToldI (w : World) (T9 g2 : Nat) (E : Text) (Av : List Nat) (L : List Text) (W : World) : Prop :=
  ∃ g c, W.heap[T9]? = some (.cells #[.slice (some ⟨g, 0, none⟩) L.length c] 31 (0, 0)) ∧ OwnT w.heap.size (.slice (some ⟨g, 0, none⟩) L.length c) L W ∧ W.heap[g2]? = some (.cells (E.map cellOf).toArray 128 (0, 0)) ∧ (∀ k ∈ Av, g ≠ k ∧ k < W.heap.size) ∧ T9 ∈ Av ∧ g2 ∈ Av ∧ Below w.heap.size w W ∧ w.heap.size ≤ T9 ∧ T9 ≠ g2
section
variable {w W W' : World} {T9 g2 : Nat} {E : Text} {Av : List Nat} {L : List Text}
theorem ToldI.on (h : ToldI w T9 g2 E Av L W) (hb : Below W.heap.size W W') : ToldI w T9 g2 E Av L W' := by
  obtain ⟨g, c, h1, h2, h3, h4, h5, h6, h7, h8⟩ := h
  exact ⟨g, c, heap_on hb h1, h2.on hb, heap_on hb h3, fun k hk => ⟨(h4 k hk).1, Nat.lt_of_lt_of_le (h4 k hk).2 hb.size⟩, h5, h6, h7.trans (hb.mono h7.size), h8⟩
/-- a loop's record turned -/
theorem ToldI.rec_ (h : ToldI w T9 g2 E Av L W) {l : Nat} {o : Obj} (hl : W.heap[l]? = some o) (hnc : o.isCells = false) (hs : W'.heap.size = W.heap.size) (ho : W'.os = W.os) (ht : W'.tape = W.tape) (hu : W'.output = W.output) (hk : ∀ k, k ≠ l → W'.heap[k]? = W.heap[k]?) (hlw : w.heap.size ≤ l) : ToldI w T9 g2 E Av L W' := by
  obtain ⟨g, c, h1, h2, h3, h4, h5, h6, h7, h8⟩ := h
  have far : ∀ {k c t fr}, W.heap[k]? = some (.cells c t fr) → k ≠ l := fun h e => by subst e; rw [hl] at h; injection h with h; subst h; cases hnc
  exact ⟨g, c, (hk _ (far h1)).trans h1, h2.put hl hnc hs hk, (hk _ (far h3)).trans h3, fun k hk' => ⟨(h4 k hk').1, by rw [hs]; exact (h4 k hk').2⟩, h5, h6, h7.trans ⟨ho, ht, hu, by omega, fun k hk' => hk k (by omega)⟩, h8⟩
/-- one more is told -/
theorem ToldI.next {g c : Nat} {v' : Value} {T : Text} {W0 : World} (h : ToldI w T9 g2 E Av L W0) (hb : Below W0.heap.size W0 W) (h1 : W0.heap[T9]? = some (.cells #[.slice (some ⟨g, 0, none⟩) L.length c] 31 (0, 0)))
    (hown : OwnT w.heap.size v' (L ++ [T]) W') (hg : W.grownBy W' (Value.slice (some ⟨g, 0, none⟩) L.length c).ownBlock) (ho : v'.ownBlock = (Value.slice (some ⟨g, 0, none⟩) L.length c).ownBlock ∨ v'.ownBlock = some W.heap.size) :
    ∃ g' c', v' = .slice (some ⟨g', 0, none⟩) (L ++ [T]).length c' ∧ W'.heap[T9]? = some (.cells #[.slice (some ⟨g, 0, none⟩) L.length c] 31 (0, 0)) ∧ ToldI w T9 g2 E Av (L ++ [T]) (W'.setRow T9 #[.slice (some ⟨g', 0, none⟩) (L ++ [T]).length c']) := by
  obtain ⟨g0, c0, q1, q2, q3, q4, q5, q6, q7, q8, q9⟩ := h
  rw [h1] at q1
  injection q1 with q1
  injection q1 with q1
  have q1' := congrArg Array.toList q1
  simp only [List.cons.injEq, and_true] at q1'
  injection q1' with e1 e2 e3
  injection e1 with e1
  injection e1 with e1
  subst e1
  subst e3
  obtain ⟨g', c', rfl, hB, hlt, hc⟩ := hown.form (by simp)
  have far : ∀ k, k ∈ Av → W'.heap[k]? = W0.heap[k]? := fun k hk => (hg.block k (Nat.lt_of_lt_of_le (q4 k hk).2 hb.size) (fun e => (q4 k hk).1 (by simp only [Value.ownBlock] at e; injection e with e; exact e.symm))).trans (hb.block k (q4 k hk).2)
  have hT9 := (far T9 q5).trans h1
  have hne : ∀ k, k ∈ Av → g' ≠ k := fun k hk e => by
    rcases ho with ho | ho
    · simp only [Value.ownBlock] at ho
      injection ho with ho
      exact (q4 k hk).1 (by omega)
    · simp only [Value.ownBlock] at ho
      injection ho with ho
      have := Nat.lt_of_lt_of_le (q4 k hk).2 hb.size
      omega
  refine ⟨g', c', rfl, hT9, g', c', setRow_heap _ _ _ _ _ _ hT9, hown.cellPut hT9 (by simp only [Value.ownBlock]; intro e; injection e with e; exact hne T9 q5 e) _, (setRow_other _ _ _ _ (Ne.symm q9)).trans ((far g2 q6).trans q3), fun k hk => ⟨hne k hk, ?_⟩, q5, q6, ?_, q8, q9⟩
  · have := (q4 k hk).2
    have h1 := hb.size
    have h2 := hg.size
    simp only [World.setRow, Array.size_modify]
    omega
  · exact below_setRow ((q7.trans (hb.mono q7.size)).grown hg (Nat.le_trans q7.size hb.size) (fun k hk => by simp only [Value.ownBlock] at hk; injection hk with hk; subst hk; exact (q2.base _ rfl).1)) q8 _
end
end Go.Proofs.Ytfjejiapafdgeaa
