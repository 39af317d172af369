/- A range over a function whose rounds make memory of their own: what is known may speak of what the rounds made. Slices of bytes told one by one into a variable, while a loop goes round. -/
import Derived.Test.YthgakgjhcadajaaJ12
import Derived.Test.YthgakgjhcadajaaJ16
namespace Go.Proofs.Ythgakgjhcadajaa
open Go.RowKit
set_option maxRecDepth 100000

section
variable {α : Type} {P : Program}
theorem wp_rangeTold2 {g : Operand} {ps : Array Tmp} {assign body : Code} {Q : Exit → Act → World → Prop} {a : Act} {w : World} {gf : Nat} {lb : Array Value}
    (hg : a.eval g = .func (.func gf) #[] lb) (eg : ∀ args w, (callFunc gf args).run P w = .ok (.enter gf args) w) {encs : α → Array Value} {Fx : List α → α → World → Prop} {Kp : World → World → Prop} {S Sp : List α → Prop}
    (hseq : SeqTold P gf lb encs Fx Kp S Sp w) (hKt : ∀ {A B C : World}, Kp A B → Kp B C → Kp A C) (hKb : ∀ A B, Below w.heap.size A B → Kp A B)
    (hps : ∀ x, (encs x).size = ps.size)
    (I : List α → World → Prop) (Ix : Code → List α → World → Prop) (hI : ∀ pre A B, I pre A → Below A.heap.size A B → I pre B) (hIx : ∀ c pre A B, Ix c pre A → Below A.heap.size A B → Ix c pre B)
    (hP : ∀ pre A l r o, w.heap.size < l → I pre A → A.heap[l]? = some (.loop r) → I pre (A.putObj l o)) (hPx : ∀ c pre A l r o, w.heap.size < l → Ix c pre A → A.heap[l]? = some (.loop r) → Ix c pre (A.putObj l o)) (h0 : I [] w)
    (hround : ∀ (l : Nat) (r : Loop) (pre : List α) (x : α) (W : World), w.heap.size < l → W.heap[l]? = some (.loop r) → I pre W → Fx pre x W →
      assign.wpIn (Fence.wide.inRound l) 1 P (Exit.then (fun a₁ w₁ => Below W.heap.size W w₁ ∧ ∀ Wb, Beg l w₁ Wb → body.wpIn (Fence.wide.inRound l) 1 P (roundP Kp I Ix (pre ++ [x]) Wb) a₁ Wb) (fun _ _ _ => False))
        { tmps := (ps.zip (encs x)).foldl (fun t (p, v) => t.setIfInBounds p v) a.tmps, defers := [] } W)
    (hdone : ∀ (D : Nat) (xs : List α) (W : World), w.heap.size ≤ D → S xs → I xs W → W.heap[D]? = some (.deferred (some [])) → Q .normal { a with defers := { target := .collected D, args := #[] } :: a.defers } W)
    (hstop : ∀ (D : Nat) (c : Code) (pre : List α) (W : World), w.heap.size ≤ D → Sp pre → Ix c pre W → W.heap[D]? = some (.deferred (some [])) → c.wp P Q { a with defers := { target := .collected D, args := #[] } :: a.defers } W) :
    (Code.rangeFunc g ps assign body).wp P Q a w := by
  refine (wpIn_wide (n := 1)).1 (wpIn_rangeFunc fun fn hfn => ?_)
  -- the loop's record, in whatever state; the two blocks that are laid
  let rc : LoopState → Option Code → Loop := fun st pe => { state := st, pending := pe, fn := fn, tmps := a.tmps, params := ps, assign := assign, body := body, defers := w.heap.size }
  let L := w.heap.size + 1
  let W1 := (w.alloc (.deferred (some []))).alloc (.loop (rc .ready none))
  let At : LoopState → Option Code → World → Prop := fun st pe W => W.heap[L]? = some (.loop (rc st pe)) ∧ W.heap[w.heap.size]? = some (.deferred (some []))
  have hLlt : ∀ {st pe W}, At st pe W → L < W.heap.size := fun h => (Array.getElem?_eq_some_iff.1 h.1).1
  have atBelow : ∀ {st pe A B}, At st pe A → Below A.heap.size A B → At st pe B := fun h hb => ⟨(hb.block _ (hLlt h)).trans h.1, (hb.block _ (by have := hLlt h; omega)).trans h.2⟩
  have atPut : ∀ {st pe W} (st' pe'), At st pe W → At st' pe' (W.putObj L (.loop (rc st' pe'))) := fun st' pe' h => ⟨World.putObj_heap_same (hLlt h), (World.putObj_heap_other (by omega)).trans h.2⟩
  have hb1 : Below w.heap.size w W1 := ((Below.refl _ w).alloc (Nat.le_refl _) _).alloc (by simp) _
  have hA1 : At .ready none W1 := by
    refine ⟨?_, (Below.heap_alloc _ _ _ (by simp)).trans (World.alloc_heap_new w _)⟩
    have := World.alloc_heap_new (w.alloc (.deferred (some []))) (.loop (rc .ready none))
    rwa [World.size_alloc] at this
  refine ⟨L, [{ target := .collected w.heap.size, args := #[] }], W1, { target := .fn (.func gf) lb, args := #[.func (.yield L) #[] #[]] }, W1, gf, #[.func (.yield L) #[] #[]] ++ lb, W1, run_enterLoop_outer _ _ _ _ _, ?_, fun _ _ => trivial, ?_, fun h => (by simp [Fence.wide] at h), callsIn_wide.2 ?_⟩
  · simp only [resolve, hg]
    simp [go_sem]
  · simp [invoke, go_sem, eg]
  have hsz : w.heap.size ≤ W1.heap.size := hb1.size
  refine (hseq L (fun pre W => I pre W ∧ At .ready none W ∧ w.heap.size ≤ W.heap.size) (fun pre W => ∃ c, Ix c pre W ∧ At .done (some c) W ∧ w.heap.size ≤ W.heap.size) W1 hb1
    (fun pre A B h hb => ⟨hI _ _ _ h.1 hb, atBelow h.2.1 hb, Nat.le_trans h.2.2 hb.size⟩)
    (fun pre A B ⟨c, h1, h2, h3⟩ hb => ⟨c, hIx _ _ _ _ h1 hb, atBelow h2 hb, Nat.le_trans h3 hb.size⟩) ?round ⟨hI _ _ _ h0 hb1, hA1, hsz⟩).mono ?behind
  case behind =>
    rintro e B ⟨⟨v, rfl⟩, ⟨xs, hS, hi, hA, _⟩ | ⟨pre, hSp, c, hi, hA, _⟩⟩
    · exact ⟨none, _, run_endLoop hA.1 (by simp [rc]), hdone _ xs _ (Nat.le_refl _) hS (hP _ _ _ _ _ (Nat.lt_succ_self _) hi hA.1) ((World.putObj_heap_other (by omega)).trans hA.2)⟩
    · exact ⟨some c, _, run_endLoop hA.1 (by simp [rc]), wpIn_wide.2 (hstop _ c pre _ (Nat.le_refl _) hSp (hPx _ _ _ _ _ _ (Nat.lt_succ_self _) hi hA.1) ((World.putObj_heap_other (by omega)).trans hA.2))⟩
  case round =>
    rintro pre x A ⟨hi, hA, hs⟩ hx
    refine ⟨fn, _, assign, body, run_yield hA.1 (hps x), roundIn_of_wpIn hfn (wpIn_mono (hround L _ pre x A (by omega) hA.1 hi hx) ?_)⟩
    intro ex0 a1 w1 hq
    cases ex0 with
    | exit id => exact hq
    | goto t => exact hq
    | ret => exact hq
    | panic ch => exact hq
    | outgrown => exact hq
    | normal =>
    obtain ⟨hw1, hbod⟩ := hq
    have hA1 : At .ready none w1 := atBelow hA hw1
    have hs1 : w.heap.size ≤ w1.heap.size := Nat.le_trans hs hw1.size
    refine ⟨_, run_beginRound hA1.1 rfl, ?_⟩
    have hA2 : At .busy none (w1.putObj L (.loop (rc .busy none))) := atPut _ _ hA1
    have hbl : Below w.heap.size A (w1.putObj L (.loop (rc .busy none))) := (hw1.mono hs).trans (put_below _ _ (by omega))
    refine wpIn_mono (hbod _ (beg_put _ _ _)) ?_
    intro ex a3 B hp
    have hend : ∀ (j : Option Code), KeepsOthers (w1.putObj L (.loop (rc .busy none))) B → (Instr.endRound L j).run P B = .ok (.bool j.isNone) (B.putObj L (.loop (rc (if j.isNone then .ready else .done) j))) ∧
        At (if j.isNone then .ready else .done) j (B.putObj L (.loop (rc (if j.isNone then .ready else .done) j))) ∧ B.heap[L]? = some (.loop (rc .busy none)) ∧ Below w.heap.size B (B.putObj L (.loop (rc (if j.isNone then .ready else .done) j))) ∧ w.heap.size ≤ (B.putObj L (.loop (rc (if j.isNone then .ready else .done) j))).heap.size := fun j hk => by
      have hB : At .busy none B := ⟨hk.same _ _ hA2.1 rfl, hk.same _ _ hA2.2 rfl⟩
      have := hLlt hB
      exact ⟨run_endRound j hB.1, atPut _ _ hB, hB.1, put_below _ _ (by omega), by simp; omega⟩
    have goOn : ∀ (c : Code), KeepsOthers (w1.putObj L (.loop (rc .busy none))) B → Ix c (pre ++ [x]) B → ∃ v B', (Instr.endRound L (some c)).run P B = .ok v B' ∧
        ((Ending.returned v = .returned (.bool true) ∧ (I (pre ++ [x]) B' ∧ At .ready none B' ∧ w.heap.size ≤ B'.heap.size) ∧ Kp A B') ∨ (Ending.returned v = .returned (.bool false) ∧ ∃ c, Ix c (pre ++ [x]) B' ∧ At .done (some c) B' ∧ w.heap.size ≤ B'.heap.size)) := fun c hk hc => by
      obtain ⟨h1, h2, hr, h3, h4⟩ := hend (some c) hk
      exact ⟨_, _, h1, .inr ⟨rfl, c, hPx _ _ _ _ _ _ (Nat.lt_succ_self _) hc hr, h2, h4⟩⟩
    cases ex with
    | normal =>
      obtain ⟨hk, hkp, hi2⟩ := hp
      obtain ⟨h1, h2, hr, h3, h4⟩ := hend none hk
      exact ⟨_, _, h1, .inl ⟨rfl, ⟨hP _ _ _ _ _ (Nat.lt_succ_self _) hi2 hr, h2, h4⟩, hKt (hKb _ _ hbl) (hKt hkp (hKb _ _ h3))⟩⟩
    | ret => exact goOn _ hp.1 hp.2
    | exit id => exact goOn _ hp.1 hp.2
    | goto t => exact goOn _ hp.1 hp.2
    | panic ch => exact hp.elim
    | outgrown => exact hp.elim
end
end Go.Proofs.Ythgakgjhcadajaa

namespace Go.Proofs.Ythgakgjhcadajaa
open Go.RowKit
set_option maxRecDepth 100000

theorem range_cells {w : World} {g : Nat} {l : Text} {t : TypeId} {fr : Nat × Nat} (hg : w.heap[g]? = some (.cells (l.map cellOf).toArray t fr)) : w.rangeAt g 0 (l.map cellOf) := by
  have := World.rangeAt_of_block hg 0 l.length
  have e : ((l.map cellOf).toArray.extract 0 (0 + l.length)).toList = l.map cellOf := by
    simp only [Nat.zero_add, List.extract_toArray, List.extract_eq_take_drop, List.drop_zero, Nat.sub_zero]
    exact List.take_of_length_le (by simp)
  rwa [e] at this
theorem wp_store_one {w : World} {o : Oper} {a : Act} {K : Act → World → Prop} {Q : Exit → Act → World → Prop} (T : TypeId) (x y : Operand) (ho : o.op = .store T x y) (g : Nat) (hx : a.eval x = .pointer (some ⟨g, 0, none⟩)) (u : Value)
    (hsz : (Try.prog.info? T).map (·.size) = some 1) (hu : u.cells = #[u]) (h1 : u.oneCell' = true) (hy : a.eval y = u) (c : Value) (t : TypeId) (hg : w.heap[g]? = some (.cells #[c] t (0, 0)))
    (h : K (a.put o.dst undef) (w.setRow g #[u])) : o.wp Try.prog a w K Q := by
  have hst := run_storeCells_at Try.prog g 0 t [u] 0 #[c] w hg (by simp) (fun v hv => by simp at hv; subst hv; exact h1)
  have e : ((#[c] : Array Value).toList.take (0 + 0) ++ [u] ++ (#[c] : Array Value).toList.drop (0 + 0 + ([u] : List Value).length)).toArray = #[u] := by simp
  rw [e] at hst
  have hs : (sizeOf T).run Try.prog w = .ok 1 w := by
    cases hq : Try.prog.info? T with
    | none => simp [hq] at hsz
    | some i =>
      have hz : i.size = 1 := by simpa [hq] using hsz
      simp [sizeOf, typeInfo, hq, hz]
  have e2 : (#[u] : Array Value).size = 1 := rfl
  unfold Oper.wp execOp
  simp only [ho, hx, hy, Instr.storeAt, Instr.sureAddr, Sem.run_bind, Sem.run_pure, Result.andThen_ok, storeVar, hu, hs, e2, ne_eq, not_true_eq_false, if_false]
  rw [hst]
  exact h
theorem others_below {A C : World} (h : Below A.heap.size A C) : KeepsOthers A C := ⟨h.size, fun k _ hk _ => (h.block k (heapLt hk)).trans hk⟩
theorem others_setRow {A : World} {g : Nat} {cs old : Array Value} {t : TypeId} {fr : Nat × Nat} (hg : A.heap[g]? = some (.cells old t fr)) : KeepsOthers A (A.setRow g cs) := ⟨by simp [World.setRow], fun k o hk ho => by
  by_cases e : k = g
  · subst e
    rw [hg] at hk
    injection hk with hk
    subst hk
    cases ho
  · exact (setRow_other _ _ _ _ e).trans hk⟩
theorem OwnT.others {B : Nat} {v : Value} {L : List Text} {W W' : World} (h : OwnT B v L W) (hg : W.grownBy W' v.ownBlock) : KeepsOthers W W' := by
  obtain ⟨xs, h1, _⟩ := h
  refine KeepsOthers.of_grownBy hg fun j o ej hj => ?_
  rcases h1.2 with ⟨rfl, _⟩ | ⟨g, cap, cur, rfl, _, hgg, _⟩
  · simp [Value.ownBlock] at ej
  · simp only [Value.ownBlock] at ej
    injection ej with ej
    subst ej
    rw [hgg] at hj
    injection hj with hj
    subst hj
    rfl
theorem OwnT.base {B : Nat} {v : Value} {L : List Text} {W : World} (h : OwnT B v L W) : ∀ k, v.ownBlock = some k → B ≤ k ∧ k < W.heap.size := by
  obtain ⟨xs, h1, _⟩ := h
  exact h1.lt
/-- a block that holds no cells is none of the row's -/
theorem OwnT.put {B : Nat} {v : Value} {L : List Text} {W W' : World} (h : OwnT B v L W) {g : Nat} {o : Obj} (hg : W.heap[g]? = some o) (ho : o.isCells = false) (hs : W'.heap.size = W.heap.size) (hk : ∀ k, k ≠ g → W'.heap[k]? = W.heap[k]?) : OwnT B v L W' := by
  refine h.turn g (by omega) (fun k _ hne => hk k hne) ?_ ?_
  · obtain ⟨xs, q1, _⟩ := h
    rcases q1.2 with ⟨rfl, _⟩ | ⟨g', cap, cur, rfl, _, hgg, _⟩
    · simp [Value.ownBlock]
    · simp only [Value.ownBlock]
      intro e
      injection e with e
      subst e
      rw [hg] at hgg
      injection hgg with hgg
      subst hgg
      cases ho
  · intro j hj b c xs q1 q2 q3 q4 e
    subst e
    have hc := q3 0 (cellOf (L[j][0]'q4)) (by simp [q4])
    unfold World.cell? at hc
    rw [hg] at hc
    cases o <;> first | (cases ho; done) | (cases hc; done)
/-- a cell that holds a slice turned is none of the row's, where the row is another block -/
theorem OwnT.cellPut {B : Nat} {v : Value} {L : List Text} {W : World} (h : OwnT B v L W) {g : Nat} {A : Option Addr} {n c : Nat} {t : TypeId} {fr : Nat × Nat} (hg : W.heap[g]? = some (.cells #[.slice A n c] t fr)) (hv : v.ownBlock ≠ some g) (u : Array Value) : OwnT B v L (W.setRow g u) := by
  refine h.turn g (by simp [World.setRow]) (fun k _ hne => setRow_other _ _ _ _ hne) hv ?_
  intro j hj b c' xs q1 q2 q3 q4 e
  subst e
  have hc := q3 0 (cellOf (L[j][0]'q4)) (by simp [q4])
  rw [cell_of_row _ _ _ _ _ _ hg] at hc
  simp [cellOf] at hc

/-- what is told so far, kept in a variable's cell; blocks 'Av' are no part of it; a sector stands beside it -/
def ToldI (w : World) (T9 g2 : Nat) (E : Text) (Av : List Nat) (L : List Text) (W : World) : Prop :=
  ∃ g c, W.heap[T9]? = some (.cells #[.slice (some ⟨g, 0, none⟩) L.length c] 31 (0, 0)) ∧ OwnT w.heap.size (.slice (some ⟨g, 0, none⟩) L.length c) L W ∧ W.heap[g2]? = some (.cells (E.map cellOf).toArray 128 (0, 0)) ∧ (∀ k ∈ Av, g ≠ k ∧ k < W.heap.size) ∧ T9 ∈ Av ∧ g2 ∈ Av ∧ Below w.heap.size w W ∧ w.heap.size ≤ T9 ∧ T9 ≠ g2
section
variable {w W W' : World} {T9 g2 : Nat} {E : Text} {Av : List Nat} {L : List Text}
theorem ToldI.on (h : ToldI w T9 g2 E Av L W) (hb : Below W.heap.size W W') : ToldI w T9 g2 E Av L W' := by
  obtain ⟨g, c, h1, h2, h3, h4, h5, h6, h7, h8⟩ := h
  exact ⟨g, c, heap_on hb h1, h2.on hb, heap_on hb h3, fun k hk => ⟨(h4 k hk).1, Nat.lt_of_lt_of_le (h4 k hk).2 hb.size⟩, h5, h6, h7.trans (hb.mono h7.size), h8⟩
/-- a loop's record turned -/
theorem ToldI.rec_ (h : ToldI w T9 g2 E Av L W) {l : Nat} {o : Obj} (hl : W.heap[l]? = some o) (hnc : o.isCells = false) (hs : W'.heap.size = W.heap.size) (ho : W'.os = W.os) (ht : W'.tape = W.tape) (hu : W'.output = W.output) (hk : ∀ k, k ≠ l → W'.heap[k]? = W.heap[k]?) (hlw : w.heap.size ≤ l) : ToldI w T9 g2 E Av L W' := by
  obtain ⟨g, c, h1, h2, h3, h4, h5, h6, h7, h8⟩ := h
  have far : ∀ {k c t fr}, W.heap[k]? = some (.cells c t fr) → k ≠ l := fun h e => by subst e; rw [hl] at h; injection h with h; subst h; cases hnc
  exact ⟨g, c, (hk _ (far h1)).trans h1, h2.put hl hnc hs hk, (hk _ (far h3)).trans h3, fun k hk' => ⟨(h4 k hk').1, by rw [hs]; exact (h4 k hk').2⟩, h5, h6, h7.trans ⟨ho, ht, hu, by omega, fun k hk' => hk k (by omega)⟩, h8⟩
/-- one more is told -/
theorem ToldI.next {g c : Nat} {v' : Value} {T : Text} {W0 : World} (h : ToldI w T9 g2 E Av L W0) (hb : Below W0.heap.size W0 W) (h1 : W0.heap[T9]? = some (.cells #[.slice (some ⟨g, 0, none⟩) L.length c] 31 (0, 0)))
    (hown : OwnT w.heap.size v' (L ++ [T]) W') (hg : W.grownBy W' (Value.slice (some ⟨g, 0, none⟩) L.length c).ownBlock) (ho : v'.ownBlock = (Value.slice (some ⟨g, 0, none⟩) L.length c).ownBlock ∨ v'.ownBlock = some W.heap.size) :
    ∃ g' c', v' = .slice (some ⟨g', 0, none⟩) (L ++ [T]).length c' ∧ W'.heap[T9]? = some (.cells #[.slice (some ⟨g, 0, none⟩) L.length c] 31 (0, 0)) ∧ ToldI w T9 g2 E Av (L ++ [T]) (W'.setRow T9 #[.slice (some ⟨g', 0, none⟩) (L ++ [T]).length c']) := by
  obtain ⟨g0, c0, q1, q2, q3, q4, q5, q6, q7, q8, q9⟩ := h
  rw [h1] at q1
  injection q1 with q1
  injection q1 with q1
  have q1' := congrArg Array.toList q1
  simp only [List.cons.injEq, and_true] at q1'
  injection q1' with e1 e2 e3
  injection e1 with e1
  injection e1 with e1
  subst e1
  subst e3
  obtain ⟨g', c', rfl, hB, hlt, hc⟩ := hown.form (by simp)
  have far : ∀ k, k ∈ Av → W'.heap[k]? = W0.heap[k]? := fun k hk => (hg.block k (Nat.lt_of_lt_of_le (q4 k hk).2 hb.size) (fun e => (q4 k hk).1 (by simp only [Value.ownBlock] at e; injection e with e; exact e.symm))).trans (hb.block k (q4 k hk).2)
  have hT9 := (far T9 q5).trans h1
  have hne : ∀ k, k ∈ Av → g' ≠ k := fun k hk e => by
    rcases ho with ho | ho
    · simp only [Value.ownBlock] at ho
      injection ho with ho
      exact (q4 k hk).1 (by omega)
    · simp only [Value.ownBlock] at ho
      injection ho with ho
      have := Nat.lt_of_lt_of_le (q4 k hk).2 hb.size
      omega
  refine ⟨g', c', rfl, hT9, g', c', setRow_heap _ _ _ _ _ _ hT9, hown.cellPut hT9 (by simp only [Value.ownBlock]; intro e; injection e with e; exact hne T9 q5 e) _, (setRow_other _ _ _ _ (Ne.symm q9)).trans ((far g2 q6).trans q3), fun k hk => ⟨hne k hk, ?_⟩, q5, q6, ?_, q8, q9⟩
  · have := (q4 k hk).2
    have h1 := hb.size
    have h2 := hg.size
    simp only [World.setRow, Array.size_modify]
    omega
  · exact below_setRow ((q7.trans (hb.mono q7.size)).grown hg (Nat.le_trans q7.size hb.size) (fun k hk => by simp only [Value.ownBlock] at hk; injection hk with hk; subst hk; exact (q2.base _ rfl).1)) q8 _
end
end Go.Proofs.Ythgakgjhcadajaa
