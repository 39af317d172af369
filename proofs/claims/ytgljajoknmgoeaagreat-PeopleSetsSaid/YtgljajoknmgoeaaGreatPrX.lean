/- A range over a function that goes through a map: its iterator is turned between the rounds. -/
import Derived.Test.YtgljajoknmgoeaaGreatPrW
import Derived.Test.YtgljajoknmgoeaaGreatRangeB
namespace Go.Proofs.YtgljajoknmgoeaaGreat
open Go.RowKit
set_option maxRecDepth 100000

/-- nothing but iterators was turned, and none of the old ones -/
structure Tn (b : Nat) (A B : World) : Prop where
  size : A.heap.size ≤ B.heap.size
  same : ∀ (k : Nat) (o : Obj), A.heap[k]? = some o → (∀ a b c d, o ≠ .mapIter a b c d) → B.heap[k]? = some o
  low : ∀ k, k < b → k < A.heap.size → B.heap[k]? = A.heap[k]?
  tape : B.tape = A.tape
  os : B.os = A.os
  output : B.output = A.output
theorem Tn.of_below {b : Nat} {A B : World} (h : Below A.heap.size A B) : Tn b A B := ⟨h.size, fun k _ hk _ => (h.block k (heapLt hk)).trans hk, fun k _ hk => h.block k hk, h.tape, h.os, h.output⟩
theorem Tn.of_turn {e : Nat} {A B : World} {r : Nat} (he : e ≤ r) (hg : A.grownBy B (some r)) {a : Option Nat} {b : Nat} {c : Array Nat} {d : Nat} (hr : A.heap[r]? = some (.mapIter a b c d)) : Tn e A B := ⟨hg.size, fun k o hk hn => by
  have hne : k ≠ r := fun e => by
    subst e
    rw [hr] at hk
    injection hk with hk
    exact hn _ _ _ _ hk.symm
  exact (hg.block k (heapLt hk) (fun e => hne (by injection e))).trans hk, fun k hk hk2 => hg.block k hk2 (fun q => by have q2 : k = r := Option.some.inj q; omega), hg.tape, hg.os, hg.output⟩
theorem Tn.cells {b k : Nat} {A B : World} {cs : Array Value} {ty : TypeId} {z : Nat × Nat} (h : Tn b A B) (hk : A.heap[k]? = some (.cells cs ty z)) : B.heap[k]? = some (.cells cs ty z) := h.same k _ hk (by intros; simp)
theorem Tn.below {b : Nat} {w A B : World} (h : Tn b A B) (hb : Below b w A) (hs : b ≤ w.heap.size) : Below b w B :=
  ⟨h.os.trans hb.os, h.tape.trans hb.tape, h.output.trans hb.output, Nat.le_trans hb.size h.size, fun k hk => (h.low k hk (by have := hb.size; omega)).trans (hb.block k hk)⟩
/-- maps and iterators are as they were -/
def isMp (o : Obj) : Prop := (∃ a b, o = .map a b) ∨ (∃ a b c d, o = .mapIter a b c d)
def Km (A B : World) : Prop := A.heap.size ≤ B.heap.size ∧ ∀ (k : Nat) (o : Obj), A.heap[k]? = some o → isMp o → B.heap[k]? = some o
theorem Km.trans {A B C : World} (h : Km A B) (k : Km B C) : Km A C := ⟨Nat.le_trans h.1 k.1, fun i o hi ho => k.2 i o (h.2 i o hi ho) ho⟩
theorem Km.of_below {A B : World} (h : Below A.heap.size A B) : Km A B := ⟨h.size, fun k _ hk _ => (h.block k (heapLt hk)).trans hk⟩
theorem Km.of_others {A B : World} (h : KeepsOthers A B) : Km A B := ⟨h.size, fun k o hk ho => h.same k o hk (by
  rcases ho with ⟨a, b, rfl⟩ | ⟨a, b, c, d, rfl⟩ <;> rfl)⟩
theorem Km.of_put {A : World} {l : Nat} {r o : Loop} (h : A.heap[l]? = some (.loop r)) : Km A (A.putObj l (.loop o)) := ⟨by simp, fun k q hk hq => by
  have hne : k ≠ l := fun e => by
    subst e
    rw [h] at hk
    injection hk with hk
    subst hk
    rcases hq with ⟨_, _, e⟩ | ⟨_, _, _, _, e⟩ <;> cases e
  exact (World.putObj_heap_other hne).trans hk⟩
section
variable {α : Type} {P : Program}
/-- the contract: of each value that comes, 'Fx' holds where it comes; the call turns nothing but iterators of its own -/
def SeqTold3 (P : Program) (gf : Nat) (lb : Array Value) (encs : α → Array Value) (Fx : List α → α → World → Prop) (Kp : World → World → Prop) (S Sp : List α → Prop) (w : World) : Prop :=
  ∀ (l : Nat) (J Jx : List α → World → Prop) (W : World), Below w.heap.size w W → (∀ pre A B, J pre A → Tn w.heap.size A B → J pre B) → (∀ pre A B, Jx pre A → Tn w.heap.size A B → Jx pre B) →
    (∀ pre x A, J pre A → Fx pre x A → YieldAt Fence.wide 1 P l (encs x) A fun e B =>
      (e = .returned (.bool true) ∧ J (pre ++ [x]) B ∧ Kp A B) ∨ (e = .returned (.bool false) ∧ Jx (pre ++ [x]) B)) →
    J [] W → Calls P gf (#[.func (.yield l) #[] #[]] ++ lb) W fun e B => (∃ v, e = .returned v) ∧ ((∃ xs, S xs ∧ J xs B) ∨ (∃ pre, Sp pre ∧ Jx pre B))
theorem wp_rangeTold3 {g : Operand} {ps : Array Tmp} {assign body : Code} {Q : Exit → Act → World → Prop} {a : Act} {w : World} {gf : Nat} {lb : Array Value}
    (hg : a.eval g = .func (.func gf) #[] lb) (eg : ∀ args w, (callFunc gf args).run P w = .ok (.enter gf args) w) {encs : α → Array Value} {Fx : List α → α → World → Prop} {Kp : World → World → Prop} {S Sp : List α → Prop}
    (hseq : SeqTold3 P gf lb encs Fx Kp S Sp w) (hKt : ∀ {A B C : World}, Kp A B → Kp B C → Kp A C) (hKb : ∀ A B, Below A.heap.size A B → Kp A B) (hKp : ∀ A l r o, A.heap[l]? = some (.loop r) → Kp A (A.putObj l (.loop o)))
    (hps : ∀ x, (encs x).size = ps.size)
    (I : List α → World → Prop) (Ix : Code → List α → World → Prop) (hI : ∀ pre A B, I pre A → Tn w.heap.size A B → I pre B) (hIx : ∀ c pre A B, Ix c pre A → Tn w.heap.size A B → Ix c pre B)
    (hP : ∀ pre A l r o, w.heap.size < l → I pre A → A.heap[l]? = some (.loop r) → I pre (A.putObj l o)) (hPx : ∀ c pre A l r o, w.heap.size < l → Ix c pre A → A.heap[l]? = some (.loop r) → Ix c pre (A.putObj l o)) (h0 : I [] w)
    (hround : ∀ (l : Nat) (r : Loop) (pre : List α) (x : α) (W : World), w.heap.size < l → W.heap[l]? = some (.loop r) → I pre W → Fx pre x W →
      assign.wpIn (Fence.wide.inRound l) 1 P (Exit.then (fun a₁ w₁ => Below W.heap.size W w₁ ∧ ∀ Wb, Beg l w₁ Wb → body.wpIn (Fence.wide.inRound l) 1 P (roundP Kp I Ix (pre ++ [x]) Wb) a₁ Wb) (fun _ _ _ => False))
        { tmps := (ps.zip (encs x)).foldl (fun t (p, v) => t.setIfInBounds p v) a.tmps, defers := [] } W)
    (hdone : ∀ (D : Nat) (xs : List α) (W : World), w.heap.size ≤ D → S xs → I xs W → W.heap[D]? = some (.deferred (some [])) → Q .normal { a with defers := { target := .collected D, args := #[] } :: a.defers } W)
    (hstop : ∀ (D : Nat) (c : Code) (pre : List α) (W : World), w.heap.size ≤ D → Sp pre → Ix c pre W → W.heap[D]? = some (.deferred (some [])) → c.wp P Q { a with defers := { target := .collected D, args := #[] } :: a.defers } W) :
    (Code.rangeFunc g ps assign body).wp P Q a w := by
  refine (wpIn_wide (n := 1)).1 (wpIn_rangeFunc fun fn hfn => ?_)
  -- the loop's record, in whatever state; the two blocks that are laid
  let rc : LoopState → Option Code → Loop := fun st pe => { state := st, pending := pe, fn := fn, tmps := a.tmps, params := ps, assign := assign, body := body, defers := w.heap.size }
  let L := w.heap.size + 1
  let W1 := (w.alloc (.deferred (some []))).alloc (.loop (rc .ready none))
  let At : LoopState → Option Code → World → Prop := fun st pe W => W.heap[L]? = some (.loop (rc st pe)) ∧ W.heap[w.heap.size]? = some (.deferred (some []))
  have hLlt : ∀ {st pe W}, At st pe W → L < W.heap.size := fun h => (Array.getElem?_eq_some_iff.1 h.1).1
  have atBelow : ∀ {st pe A B}, At st pe A → Below A.heap.size A B → At st pe B := fun h hb => ⟨(hb.block _ (hLlt h)).trans h.1, (hb.block _ (by have := hLlt h; omega)).trans h.2⟩
  have atPut : ∀ {st pe W} (st' pe'), At st pe W → At st' pe' (W.putObj L (.loop (rc st' pe'))) := fun st' pe' h => ⟨World.putObj_heap_same (hLlt h), (World.putObj_heap_other (by omega)).trans h.2⟩
  have atTn : ∀ {st pe A B}, At st pe A → Tn w.heap.size A B → At st pe B := fun h hb => ⟨hb.same _ _ h.1 (by intros; simp), hb.same _ _ h.2 (by intros; simp)⟩
  have hb1 : Below w.heap.size w W1 := ((Below.refl _ w).alloc (Nat.le_refl _) _).alloc (by simp) _
  have hA1 : At .ready none W1 := by
    refine ⟨?_, (Below.heap_alloc _ _ _ (by simp)).trans (World.alloc_heap_new w _)⟩
    have := World.alloc_heap_new (w.alloc (.deferred (some []))) (.loop (rc .ready none))
    rwa [World.size_alloc] at this
  refine ⟨L, [{ target := .collected w.heap.size, args := #[] }], W1, { target := .fn (.func gf) lb, args := #[.func (.yield L) #[] #[]] }, W1, gf, #[.func (.yield L) #[] #[]] ++ lb, W1, run_enterLoop_outer _ _ _ _ _, ?_, fun _ _ => trivial, ?_, fun h => (by simp [Fence.wide] at h), callsIn_wide.2 ?_⟩
  · simp only [resolve, hg]
    simp [go_sem]
  · simp [invoke, go_sem, eg]
  have hsz : w.heap.size ≤ W1.heap.size := hb1.size
  refine (hseq L (fun pre W => I pre W ∧ At .ready none W ∧ w.heap.size ≤ W.heap.size) (fun pre W => ∃ c, Ix c pre W ∧ At .done (some c) W ∧ w.heap.size ≤ W.heap.size) W1 hb1
    (fun pre A B h hb => ⟨hI _ _ _ h.1 hb, atTn h.2.1 hb, Nat.le_trans h.2.2 hb.size⟩)
    (fun pre A B ⟨c, h1, h2, h3⟩ hb => ⟨c, hIx _ _ _ _ h1 hb, atTn h2 hb, Nat.le_trans h3 hb.size⟩) ?round ⟨hI _ _ _ h0 (Tn.of_below hb1), hA1, hsz⟩).mono ?behind
  case behind =>
    rintro e B ⟨⟨v, rfl⟩, ⟨xs, hS, hi, hA, _⟩ | ⟨pre, hSp, c, hi, hA, _⟩⟩
    · exact ⟨none, _, run_endLoop hA.1 (by simp [rc]), hdone _ xs _ (Nat.le_refl _) hS (hP _ _ _ _ _ (Nat.lt_succ_self _) hi hA.1) ((World.putObj_heap_other (by omega)).trans hA.2)⟩
    · exact ⟨some c, _, run_endLoop hA.1 (by simp [rc]), wpIn_wide.2 (hstop _ c pre _ (Nat.le_refl _) hSp (hPx _ _ _ _ _ _ (Nat.lt_succ_self _) hi hA.1) ((World.putObj_heap_other (by omega)).trans hA.2))⟩
  case round =>
    rintro pre x A ⟨hi, hA, hs⟩ hx
    refine ⟨fn, _, assign, body, run_yield hA.1 (hps x), roundIn_of_wpIn hfn (wpIn_mono (hround L _ pre x A (by omega) hA.1 hi hx) ?_)⟩
    intro ex0 a1 w1 hq
    cases ex0 with
    | exit id => exact hq
    | goto t => exact hq
    | ret => exact hq
    | panic ch => exact hq
    | outgrown => exact hq
    | normal =>
    obtain ⟨hw1, hbod⟩ := hq
    have hA1 : At .ready none w1 := atBelow hA hw1
    have hs1 : w.heap.size ≤ w1.heap.size := Nat.le_trans hs hw1.size
    refine ⟨_, run_beginRound hA1.1 rfl, ?_⟩
    have hA2 : At .busy none (w1.putObj L (.loop (rc .busy none))) := atPut _ _ hA1
    have hbl : Below w.heap.size A (w1.putObj L (.loop (rc .busy none))) := (hw1.mono hs).trans (put_below _ _ (by omega))
    refine wpIn_mono (hbod _ (beg_put _ _ _)) ?_
    intro ex a3 B hp
    have hend : ∀ (j : Option Code), KeepsOthers (w1.putObj L (.loop (rc .busy none))) B → (Instr.endRound L j).run P B = .ok (.bool j.isNone) (B.putObj L (.loop (rc (if j.isNone then .ready else .done) j))) ∧
        At (if j.isNone then .ready else .done) j (B.putObj L (.loop (rc (if j.isNone then .ready else .done) j))) ∧ B.heap[L]? = some (.loop (rc .busy none)) ∧ Below w.heap.size B (B.putObj L (.loop (rc (if j.isNone then .ready else .done) j))) ∧ w.heap.size ≤ (B.putObj L (.loop (rc (if j.isNone then .ready else .done) j))).heap.size := fun j hk => by
      have hB : At .busy none B := ⟨hk.same _ _ hA2.1 rfl, hk.same _ _ hA2.2 rfl⟩
      have := hLlt hB
      exact ⟨run_endRound j hB.1, atPut _ _ hB, hB.1, put_below _ _ (by omega), by simp; omega⟩
    have goOn : ∀ (c : Code), KeepsOthers (w1.putObj L (.loop (rc .busy none))) B → Ix c (pre ++ [x]) B → ∃ v B', (Instr.endRound L (some c)).run P B = .ok v B' ∧
        ((Ending.returned v = .returned (.bool true) ∧ (I (pre ++ [x]) B' ∧ At .ready none B' ∧ w.heap.size ≤ B'.heap.size) ∧ Kp A B') ∨ (Ending.returned v = .returned (.bool false) ∧ ∃ c, Ix c (pre ++ [x]) B' ∧ At .done (some c) B' ∧ w.heap.size ≤ B'.heap.size)) := fun c hk hc => by
      obtain ⟨h1, h2, hr, h3, h4⟩ := hend (some c) hk
      exact ⟨_, _, h1, .inr ⟨rfl, c, hPx _ _ _ _ _ _ (Nat.lt_succ_self _) hc hr, h2, h4⟩⟩
    cases ex with
    | normal =>
      obtain ⟨hk, hkp, hi2⟩ := hp
      obtain ⟨h1, h2, hr, h3, h4⟩ := hend none hk
      exact ⟨_, _, h1, .inl ⟨rfl, ⟨hP _ _ _ _ _ (Nat.lt_succ_self _) hi2 hr, h2, h4⟩, hKt (hKb _ _ hw1) (hKt (hKp _ _ _ _ hA1.1) (hKt hkp (hKp _ _ _ _ hr)))⟩⟩
    | ret => exact goOn _ hp.1 hp.2
    | exit id => exact goOn _ hp.1 hp.2
    | goto t => exact goOn _ hp.1 hp.2
    | panic ch => exact hp.elim
    | outgrown => exact hp.elim
end
end Go.Proofs.YtgljajoknmgoeaaGreat
