/- A range over a function whose rounds make memory of their own: what is known may speak of what the rounds made. -/
import Derived.Test.YthgpdfdijcabeaaRange
namespace Go.Proofs.Ythgpdfdijcabeaa
open Go.RowKit
set_option maxRecDepth 100000

section
variable {α : Type} {P : Program}
theorem wp_rangeTold2 {g : Operand} {ps : Array Tmp} {assign body : Code} {Q : Exit → Act → World → Prop} {a : Act} {w : World} {gf : Nat} {lb : Array Value}
    (hg : a.eval g = .func (.func gf) #[] lb) (eg : ∀ args w, (callFunc gf args).run P w = .ok (.enter gf args) w) {encs : α → Array Value} {Fx : List α → α → World → Prop} {Kp : World → World → Prop} {S Sp : List α → Prop}
    (hseq : SeqTold P gf lb encs Fx Kp S Sp w) (hKt : ∀ {A B C : World}, Kp A B → Kp B C → Kp A C) (hKb : ∀ A B, Below w.heap.size A B → Kp A B)
    (hps : ∀ x, (encs x).size = ps.size)
    (I : List α → World → Prop) (Ix : Code → List α → World → Prop) (hI : ∀ pre A B, I pre A → Below A.heap.size A B → I pre B) (hIx : ∀ c pre A B, Ix c pre A → Below A.heap.size A B → Ix c pre B)
    (hP : ∀ pre A l r o, w.heap.size < l → I pre A → A.heap[l]? = some (.loop r) → I pre (A.putObj l o)) (hPx : ∀ c pre A l r o, w.heap.size < l → Ix c pre A → A.heap[l]? = some (.loop r) → Ix c pre (A.putObj l o)) (h0 : I [] w)
    (hround : ∀ (l : Nat) (r : Loop) (pre : List α) (x : α) (W : World), w.heap.size < l → W.heap[l]? = some (.loop r) → I pre W → Fx pre x W →
      assign.wpIn (Fence.wide.inRound l) 1 P (Exit.then (fun a₁ w₁ => Below W.heap.size W w₁ ∧ ∀ Wb, Beg l w₁ Wb → body.wpIn (Fence.wide.inRound l) 1 P (roundP Kp I Ix (pre ++ [x]) Wb) a₁ Wb) (fun _ _ _ => False))
        { tmps := (ps.zip (encs x)).foldl (fun t (p, v) => t.setIfInBounds p v) a.tmps, defers := [] } W)
    (hdone : ∀ (D : Nat) (xs : List α) (W : World), w.heap.size ≤ D → S xs → I xs W → W.heap[D]? = some (.deferred (some [])) → Q .normal { a with defers := { target := .collected D, args := #[] } :: a.defers } W)
    (hstop : ∀ (D : Nat) (c : Code) (pre : List α) (W : World), w.heap.size ≤ D → Sp pre → Ix c pre W → W.heap[D]? = some (.deferred (some [])) → c.wp P Q { a with defers := { target := .collected D, args := #[] } :: a.defers } W) :
    (Code.rangeFunc g ps assign body).wp P Q a w := by
  refine (wpIn_wide (n := 1)).1 (wpIn_rangeFunc fun fn hfn => ?_)
  -- the loop's record, in whatever state; the two blocks that are laid
  let rc : LoopState → Option Code → Loop := fun st pe => { state := st, pending := pe, fn := fn, tmps := a.tmps, params := ps, assign := assign, body := body, defers := w.heap.size }
  let L := w.heap.size + 1
  let W1 := (w.alloc (.deferred (some []))).alloc (.loop (rc .ready none))
  let At : LoopState → Option Code → World → Prop := fun st pe W => W.heap[L]? = some (.loop (rc st pe)) ∧ W.heap[w.heap.size]? = some (.deferred (some []))
  have hLlt : ∀ {st pe W}, At st pe W → L < W.heap.size := fun h => (Array.getElem?_eq_some_iff.1 h.1).1
  have atBelow : ∀ {st pe A B}, At st pe A → Below A.heap.size A B → At st pe B := fun h hb => ⟨(hb.block _ (hLlt h)).trans h.1, (hb.block _ (by have := hLlt h; omega)).trans h.2⟩
  have atPut : ∀ {st pe W} (st' pe'), At st pe W → At st' pe' (W.putObj L (.loop (rc st' pe'))) := fun st' pe' h => ⟨World.putObj_heap_same (hLlt h), (World.putObj_heap_other (by omega)).trans h.2⟩
  have hb1 : Below w.heap.size w W1 := ((Below.refl _ w).alloc (Nat.le_refl _) _).alloc (by simp) _
  have hA1 : At .ready none W1 := by
    refine ⟨?_, (Below.heap_alloc _ _ _ (by simp)).trans (World.alloc_heap_new w _)⟩
    have := World.alloc_heap_new (w.alloc (.deferred (some []))) (.loop (rc .ready none))
    rwa [World.size_alloc] at this
  refine ⟨L, [{ target := .collected w.heap.size, args := #[] }], W1, { target := .fn (.func gf) lb, args := #[.func (.yield L) #[] #[]] }, W1, gf, #[.func (.yield L) #[] #[]] ++ lb, W1, run_enterLoop_outer _ _ _ _ _, ?_, fun _ _ => trivial, ?_, fun h => (by simp [Fence.wide] at h), callsIn_wide.2 ?_⟩
  · simp only [resolve, hg]
    simp [go_sem]
  · simp [invoke, go_sem, eg]
  have hsz : w.heap.size ≤ W1.heap.size := hb1.size
  refine (hseq L (fun pre W => I pre W ∧ At .ready none W ∧ w.heap.size ≤ W.heap.size) (fun pre W => ∃ c, Ix c pre W ∧ At .done (some c) W ∧ w.heap.size ≤ W.heap.size) W1 hb1
    (fun pre A B h hb => ⟨hI _ _ _ h.1 hb, atBelow h.2.1 hb, Nat.le_trans h.2.2 hb.size⟩)
    (fun pre A B ⟨c, h1, h2, h3⟩ hb => ⟨c, hIx _ _ _ _ h1 hb, atBelow h2 hb, Nat.le_trans h3 hb.size⟩) ?round ⟨hI _ _ _ h0 hb1, hA1, hsz⟩).mono ?behind
  case behind =>
    rintro e B ⟨⟨v, rfl⟩, ⟨xs, hS, hi, hA, _⟩ | ⟨pre, hSp, c, hi, hA, _⟩⟩
    · exact ⟨none, _, run_endLoop hA.1 (by simp [rc]), hdone _ xs _ (Nat.le_refl _) hS (hP _ _ _ _ _ (Nat.lt_succ_self _) hi hA.1) ((World.putObj_heap_other (by omega)).trans hA.2)⟩
    · exact ⟨some c, _, run_endLoop hA.1 (by simp [rc]), wpIn_wide.2 (hstop _ c pre _ (Nat.le_refl _) hSp (hPx _ _ _ _ _ _ (Nat.lt_succ_self _) hi hA.1) ((World.putObj_heap_other (by omega)).trans hA.2))⟩
  case round =>
    rintro pre x A ⟨hi, hA, hs⟩ hx
    refine ⟨fn, _, assign, body, run_yield hA.1 (hps x), roundIn_of_wpIn hfn (wpIn_mono (hround L _ pre x A (by omega) hA.1 hi hx) ?_)⟩
    intro ex0 a1 w1 hq
    cases ex0 with
    | exit id => exact hq
    | goto t => exact hq
    | ret => exact hq
    | panic ch => exact hq
    | outgrown => exact hq
    | normal =>
    obtain ⟨hw1, hbod⟩ := hq
    have hA1 : At .ready none w1 := atBelow hA hw1
    have hs1 : w.heap.size ≤ w1.heap.size := Nat.le_trans hs hw1.size
    refine ⟨_, run_beginRound hA1.1 rfl, ?_⟩
    have hA2 : At .busy none (w1.putObj L (.loop (rc .busy none))) := atPut _ _ hA1
    have hbl : Below w.heap.size A (w1.putObj L (.loop (rc .busy none))) := (hw1.mono hs).trans (put_below _ _ (by omega))
    refine wpIn_mono (hbod _ (beg_put _ _ _)) ?_
    intro ex a3 B hp
    have hend : ∀ (j : Option Code), KeepsOthers (w1.putObj L (.loop (rc .busy none))) B → (Instr.endRound L j).run P B = .ok (.bool j.isNone) (B.putObj L (.loop (rc (if j.isNone then .ready else .done) j))) ∧
        At (if j.isNone then .ready else .done) j (B.putObj L (.loop (rc (if j.isNone then .ready else .done) j))) ∧ B.heap[L]? = some (.loop (rc .busy none)) ∧ Below w.heap.size B (B.putObj L (.loop (rc (if j.isNone then .ready else .done) j))) ∧ w.heap.size ≤ (B.putObj L (.loop (rc (if j.isNone then .ready else .done) j))).heap.size := fun j hk => by
      have hB : At .busy none B := ⟨hk.same _ _ hA2.1 rfl, hk.same _ _ hA2.2 rfl⟩
      have := hLlt hB
      exact ⟨run_endRound j hB.1, atPut _ _ hB, hB.1, put_below _ _ (by omega), by simp; omega⟩
    have goOn : ∀ (c : Code), KeepsOthers (w1.putObj L (.loop (rc .busy none))) B → Ix c (pre ++ [x]) B → ∃ v B', (Instr.endRound L (some c)).run P B = .ok v B' ∧
        ((Ending.returned v = .returned (.bool true) ∧ (I (pre ++ [x]) B' ∧ At .ready none B' ∧ w.heap.size ≤ B'.heap.size) ∧ Kp A B') ∨ (Ending.returned v = .returned (.bool false) ∧ ∃ c, Ix c (pre ++ [x]) B' ∧ At .done (some c) B' ∧ w.heap.size ≤ B'.heap.size)) := fun c hk hc => by
      obtain ⟨h1, h2, hr, h3, h4⟩ := hend (some c) hk
      exact ⟨_, _, h1, .inr ⟨rfl, c, hPx _ _ _ _ _ _ (Nat.lt_succ_self _) hc hr, h2, h4⟩⟩
    cases ex with
    | normal =>
      obtain ⟨hk, hkp, hi2⟩ := hp
      obtain ⟨h1, h2, hr, h3, h4⟩ := hend none hk
      exact ⟨_, _, h1, .inl ⟨rfl, ⟨hP _ _ _ _ _ (Nat.lt_succ_self _) hi2 hr, h2, h4⟩, hKt (hKb _ _ hbl) (hKt hkp (hKb _ _ h3))⟩⟩
    | ret => exact goOn _ hp.1 hp.2
    | exit id => exact goOn _ hp.1 hp.2
    | goto t => exact goOn _ hp.1 hp.2
    | panic ch => exact hp.elim
    | outgrown => exact hp.elim
end
end Go.Proofs.Ythgpdfdijcabeaa
