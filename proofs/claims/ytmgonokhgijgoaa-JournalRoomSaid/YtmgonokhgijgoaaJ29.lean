/- A scope with several labels: what holds at a jump to each, and what grows less from jump to jump. scan: a scope of three labels; a box turned beside a row; the bytes of a batch. -/
import Derived.Test.YtmgonokhgijgoaaRows
import Derived.ScopeJumps
import Derived.Test.YtmgonokhgijgoaaJ28
import Derived.Test.YtmgonokhgijgoaaJ23
import Derived.Test.YtmgonokhgijgoaaJ15
import Derived.Test.YtmgonokhgijgoaaJ24
namespace Go.Proofs.Ytmgonokhgijgoaa
open Go

/-- by a goto to label l: J l; else Q -/
def jumpsTo (J : Nat → Act → World → Prop) (Q : Exit → Act → World → Prop) : Exit → Act → World → Prop
  | .goto l, a, w => J l a w
  | e, a, w => Q e a w
theorem wp_scope_all {P : Program} {a : Act} {w : World} {Q : Exit → Act → World → Prop} {c : Code} (J : Nat → Act → World → Prop) (μ : Nat → Act → World → Nat) (rest : Nat → Code) (hf : ∀ l a w, J l a w → findLabel c l = some (rest l))
    (first : c.wp P (jumpsTo J Q) a w)
    (pass : ∀ l a w, J l a w → (rest l).wp P (jumpsTo (fun l' a' w' => J l' a' w' ∧ μ l' a' w' < μ l a w) Q) a w) : (Code.scope c).wp P Q a w := by
  intro b k cs
  have hg : ∀ l a w, J l a w → gotoIn l (.inScope c :: k) = some (.code (rest l) :: .inScope c :: k) := fun l a w h => by simp [gotoIn, hf l a w h]
  have key : ∀ n l a w, μ l a w = n → J l a w → ∃ e a' w', Q e a' w' ∧ Arrives P (lone (b.at a (.code (rest l) :: .inScope c :: k)) cs w) b k cs e a' w' := by
    intro n
    induction n using Nat.strongRecOn with
    | _ n ih =>
      intro l a w hn hJ
      obtain ⟨e, a₁, w₁, hq, harr⟩ := pass l a w hJ b (.inScope c :: k) cs
      cases e with
      | normal => exact ⟨.normal, a₁, w₁, hq, Steps.trans harr (.one step_inScope)⟩
      | exit id => exact ⟨.exit id, a₁, w₁, hq, fun k' hk => harr k' (by simp [exitTo, hk])⟩
      | goto l' =>
        obtain ⟨hJ', hlt⟩ := hq
        obtain ⟨e₂, a₂, w₂, hq₂, harr₂⟩ := ih _ (by omega) l' a₁ w₁ rfl hJ'
        exact ⟨e₂, a₂, w₂, hq₂, .of_steps (harr _ (hg l' a₁ w₁ hJ')) harr₂⟩
      | ret => exact ⟨_, a₁, w₁, hq, harr⟩
      | panic ch => exact ⟨_, a₁, w₁, hq, harr⟩
      | outgrown => exact ⟨_, a₁, w₁, hq, harr⟩
  obtain ⟨e, a₁, w₁, hq, harr⟩ := first b (.inScope c :: k) cs
  cases e with
  | normal => exact ⟨.normal, a₁, w₁, hq, .head step_scope (Steps.trans harr (.one step_inScope))⟩
  | exit id => exact ⟨.exit id, a₁, w₁, hq, fun k' hk => .head step_scope (harr k' (by simp [exitTo, hk]))⟩
  | goto l' =>
    obtain ⟨e₂, a₂, w₂, hq₂, harr₂⟩ := key _ l' a₁ w₁ rfl hq
    exact ⟨e₂, a₂, w₂, hq₂, .of_steps (.head step_scope (harr _ (hg l' a₁ w₁ hq))) harr₂⟩
  | ret => exact ⟨_, a₁, w₁, hq, .of_steps (.one step_scope) harr⟩
  | panic ch => exact ⟨_, a₁, w₁, hq, .of_steps (.one step_scope) harr⟩
  | outgrown => exact ⟨_, a₁, w₁, hq, .of_steps (.one step_scope) harr⟩
end Go.Proofs.Ytmgonokhgijgoaa

namespace Go.Proofs.Ytmgonokhgijgoaa
open Go.RowKit
set_option maxRecDepth 100000
set_option linter.unusedSimpArgs false
set_option linter.unusedVariables false

section
variable {P : Program} {a : Act} {w : World} {Q : Exit → Act → World → Prop} {J0 J1 J2 : Act → World → Prop}
/-- by a goto to one of three labels: what is asked there; else Q -/
def jump3 (J0 J1 J2 : Act → World → Prop) (Q : Exit → Act → World → Prop) : Exit → Act → World → Prop
  | .goto l, a, w => (l = 0 ∧ J0 a w) ∨ (l = 1 ∧ J1 a w) ∨ (l = 2 ∧ J2 a w)
  | e, a, w => Q e a w
theorem jump3_normal : jump3 J0 J1 J2 Q .normal a w = Q .normal a w := rfl
theorem jump3_exit (id : Nat) : jump3 J0 J1 J2 Q (.exit id) a w = Q (.exit id) a w := rfl
theorem jump3_ret : jump3 J0 J1 J2 Q .ret a w = Q .ret a w := rfl
theorem jump3_panic (ch : List PanicEntry) : jump3 J0 J1 J2 Q (.panic ch) a w = Q (.panic ch) a w := rfl
theorem jump3_0 (h : J0 a w) : jump3 J0 J1 J2 Q (.goto 0) a w := .inl ⟨rfl, h⟩
theorem jump3_1 (h : J1 a w) : jump3 J0 J1 J2 Q (.goto 1) a w := .inr (.inl ⟨rfl, h⟩)
theorem jump3_2 (h : J2 a w) : jump3 J0 J1 J2 Q (.goto 2) a w := .inr (.inr ⟨rfl, h⟩)
theorem wp_scope3 {c : Code} (R0 R1 R2 : Nat → Act → World → Prop) {r0 r1 r2 : Code} (h0 : findLabel c 0 = some r0) (h1 : findLabel c 1 = some r1) (h2 : findLabel c 2 = some r2)
    (first : c.wp P (jump3 (fun a w => ∃ m, R0 m a w) (fun a w => ∃ m, R1 m a w) (fun a w => ∃ m, R2 m a w) Q) a w)
    (p0 : ∀ m a w, R0 m a w → r0.wp P (jump3 (fun a' w' => ∃ m', m' < m ∧ R0 m' a' w') (fun a' w' => ∃ m', m' < m ∧ R1 m' a' w') (fun a' w' => ∃ m', m' < m ∧ R2 m' a' w') Q) a w)
    (p1 : ∀ m a w, R1 m a w → r1.wp P (jump3 (fun a' w' => ∃ m', m' < m ∧ R0 m' a' w') (fun a' w' => ∃ m', m' < m ∧ R1 m' a' w') (fun a' w' => ∃ m', m' < m ∧ R2 m' a' w') Q) a w)
    (p2 : ∀ m a w, R2 m a w → r2.wp P (jump3 (fun a' w' => ∃ m', m' < m ∧ R0 m' a' w') (fun a' w' => ∃ m', m' < m ∧ R1 m' a' w') (fun a' w' => ∃ m', m' < m ∧ R2 m' a' w') Q) a w) : (Code.scope c).wp P Q a w := by
  intro b k cs
  have hg : ∀ l rest, findLabel c l = some rest → gotoIn l (.inScope c :: k) = some (.code rest :: .inScope c :: k) := fun l rest h => by simp [gotoIn, h]
  have key : ∀ m l a w, ((l = 0 ∧ R0 m a w) ∨ (l = 1 ∧ R1 m a w) ∨ (l = 2 ∧ R2 m a w)) → ∃ rest, findLabel c l = some rest ∧ ∃ e a' w', Q e a' w' ∧ Arrives P (lone (b.at a (.code rest :: .inScope c :: k)) cs w) b k cs e a' w' := by
    intro m
    induction m using Nat.strongRecOn with
    | _ m ih =>
      intro l a w hR
      obtain ⟨rest, hrest, hwp⟩ : ∃ rest, findLabel c l = some rest ∧ rest.wp P (jump3 (fun a' w' => ∃ m', m' < m ∧ R0 m' a' w') (fun a' w' => ∃ m', m' < m ∧ R1 m' a' w') (fun a' w' => ∃ m', m' < m ∧ R2 m' a' w') Q) a w := by
        rcases hR with ⟨rfl, hR⟩ | ⟨rfl, hR⟩ | ⟨rfl, hR⟩
        · exact ⟨r0, h0, p0 m a w hR⟩
        · exact ⟨r1, h1, p1 m a w hR⟩
        · exact ⟨r2, h2, p2 m a w hR⟩
      refine ⟨rest, hrest, ?_⟩
      obtain ⟨e, a₁, w₁, hq, harr⟩ := hwp b (.inScope c :: k) cs
      cases e with
      | normal => exact ⟨.normal, a₁, w₁, hq, Steps.trans harr (.one step_inScope)⟩
      | exit id => exact ⟨.exit id, a₁, w₁, hq, fun k' hk => harr k' (by simp [exitTo, hk])⟩
      | goto l' =>
        obtain ⟨m', hlt, hR'⟩ : ∃ m', m' < m ∧ ((l' = 0 ∧ R0 m' a₁ w₁) ∨ (l' = 1 ∧ R1 m' a₁ w₁) ∨ (l' = 2 ∧ R2 m' a₁ w₁)) := by
          rcases hq with ⟨e, m', hm, h⟩ | ⟨e, m', hm, h⟩ | ⟨e, m', hm, h⟩
          · exact ⟨m', hm, .inl ⟨e, h⟩⟩
          · exact ⟨m', hm, .inr (.inl ⟨e, h⟩)⟩
          · exact ⟨m', hm, .inr (.inr ⟨e, h⟩)⟩
        obtain ⟨rest', hr', e₂, a₂, w₂, hq₂, harr₂⟩ := ih m' hlt l' a₁ w₁ hR'
        exact ⟨e₂, a₂, w₂, hq₂, .of_steps (harr _ (hg l' rest' hr')) harr₂⟩
      | ret => exact ⟨_, a₁, w₁, hq, harr⟩
      | panic ch => exact ⟨_, a₁, w₁, hq, harr⟩
      | outgrown => exact ⟨_, a₁, w₁, hq, harr⟩
  obtain ⟨e, a₁, w₁, hq, harr⟩ := first b (.inScope c :: k) cs
  cases e with
  | normal => exact ⟨.normal, a₁, w₁, hq, .head step_scope (Steps.trans harr (.one step_inScope))⟩
  | exit id => exact ⟨.exit id, a₁, w₁, hq, fun k' hk => .head step_scope (harr k' (by simp [exitTo, hk]))⟩
  | goto l' =>
    obtain ⟨m', hR'⟩ : ∃ m', ((l' = 0 ∧ R0 m' a₁ w₁) ∨ (l' = 1 ∧ R1 m' a₁ w₁) ∨ (l' = 2 ∧ R2 m' a₁ w₁)) := by
      rcases hq with ⟨e, m', h⟩ | ⟨e, m', h⟩ | ⟨e, m', h⟩
      · exact ⟨m', .inl ⟨e, h⟩⟩
      · exact ⟨m', .inr (.inl ⟨e, h⟩)⟩
      · exact ⟨m', .inr (.inr ⟨e, h⟩)⟩
    obtain ⟨rest', hr', e₂, a₂, w₂, hq₂, harr₂⟩ := key m' l' a₁ w₁ hR'
    exact ⟨e₂, a₂, w₂, hq₂, .of_steps (.head step_scope (harr _ (hg l' rest' hr'))) harr₂⟩
  | ret => exact ⟨_, a₁, w₁, hq, .of_steps (.one step_scope) harr⟩
  | panic ch => exact ⟨_, a₁, w₁, hq, .of_steps (.one step_scope) harr⟩
  | outgrown => exact ⟨_, a₁, w₁, hq, .of_steps (.one step_scope) harr⟩
theorem wp_scope3f {A r4 r5 r6 r7 X Y0 Y1 : Code} (R0 R1 R2 : Nat → Act → World → Prop) (h0 : findLabel (A.seq (r4.seq (r5.seq (r6.seq (r7.seq ((Code.label 2).seq X)))))) 0 = some (Code.skip.seq Y0)) (h1 : findLabel (A.seq (r4.seq (r5.seq (r6.seq (r7.seq ((Code.label 2).seq X)))))) 1 = some (Code.skip.seq Y1)) (h2 : findLabel (A.seq (r4.seq (r5.seq (r6.seq (r7.seq ((Code.label 2).seq X)))))) 2 = some (Code.skip.seq X))
    (first : ∀ Z : Code, (∀ m a w, R2 m a w → Z.wp P (jump3 (fun a w => ∃ m, R0 m a w) (fun a w => ∃ m, R1 m a w) (fun a w => ∃ m, R2 m a w) Q) a w) → (A.seq (r4.seq (r5.seq (r6.seq (r7.seq Z))))).wp P (jump3 (fun a w => ∃ m, R0 m a w) (fun a w => ∃ m, R1 m a w) (fun a w => ∃ m, R2 m a w) Q) a w)
    (p0 : ∀ m a w, R0 m a w → Y0.wp P (jump3 (fun a' w' => ∃ m', m' < m ∧ R0 m' a' w') (fun a' w' => ∃ m', m' < m ∧ R1 m' a' w') (fun a' w' => ∃ m', m' < m ∧ R2 m' a' w') Q) a w)
    (p1 : ∀ m a w, R1 m a w → Y1.wp P (jump3 (fun a' w' => ∃ m', m' < m ∧ R0 m' a' w') (fun a' w' => ∃ m', m' < m ∧ R1 m' a' w') (fun a' w' => ∃ m', m' < m ∧ R2 m' a' w') Q) a w)
    (p2 : ∀ m a w, R2 m a w → X.wp P (jump3 (fun a' w' => ∃ m', m' < m ∧ R0 m' a' w') (fun a' w' => ∃ m', m' < m ∧ R1 m' a' w') (fun a' w' => ∃ m', m' < m ∧ R2 m' a' w') Q) a w) : (Code.scope (A.seq (r4.seq (r5.seq (r6.seq (r7.seq ((Code.label 2).seq X))))))).wp P Q a w :=
  wp_scope3 R0 R1 R2 h0 h1 h2 (first _ fun m a w h => wp_seq (wp_label (wp_mono (p2 m a w h) fun e a w hq => by
    cases e with
    | goto l =>
      rcases hq with ⟨e, m', _, h⟩ | ⟨e, m', _, h⟩ | ⟨e, m', _, h⟩
      · exact .inl ⟨e, m', h⟩
      · exact .inr (.inl ⟨e, m', h⟩)
      · exact .inr (.inr ⟨e, m', h⟩)
    | _ => exact hq)))
    (fun m a w h => wp_seq (wp_skip (p0 m a w h))) (fun m a w h => wp_seq (wp_skip (p1 m a w h))) (fun m a w h => wp_seq (wp_skip (p2 m a w h)))
end

theorem OwnT.head {B : Nat} {v : Value} {L : List Text} {W W' : World} {hb : Nat} {s n u : Int} (h : OwnT B v L W) (hlt : hb < B) (hH : W.heap[hb]? = some (headO s n u)) (hs : W.heap.size ≤ W'.heap.size) (hk : ∀ k, k < W.heap.size → k ≠ hb → W'.heap[k]? = W.heap[k]?) : OwnT B v L W' :=
  h.turn hb hs hk (fun e => by have := (h.base _ e).1; omega) (fun j hj b c xs q1 q2 q3 q4 e => by
    subst e
    have hc := q3 0 (cellOf (L[j][0]'q4)) (by simp [q4])
    unfold headO at hH
    rw [cell_of_row _ _ _ _ _ _ hH] at hc
    simp [cellOf] at hc)
theorem joinX_is {L : List Text} {s n u : Int} (h : joinQ L s n u = true) : joinX L s n u = joinT L n.toNat ∧ (joinT L n.toNat).length = n.toNat ∧ 0 < n.toNat := by
  have hx : joinX L s n u = joinT L n.toNat := by unfold joinX; rw [if_pos h]
  unfold joinQ at h
  simp only [Bool.and_eq_true, decide_eq_true_eq] at h
  have hn := headOk_len h.1.1.1
  have hl : L.flatten.length = 64 * L.length := flat_len L (fun i hi => h.1.2 i hi)
  refine ⟨hx, ?_, by omega⟩
  unfold joinT
  rw [List.length_take, hl, h.1.1.2]
  omega
theorem need_is {l : Text} (h : isB l = true) : needV (lenB l) = (needT l : Int) := by
  have := need_big h
  unfold needT at this ⊢
  omega
theorem someT_mid (S : Nat → Text) (i k : Nat) : midL (someT S i (k + 1)) k = someT S (i + 1) (k - 1) := by
  unfold midL
  refine List.ext_getElem ?_ fun j h1 h2 => ?_
  · rw [List.length_take, List.length_drop, someT_len, someT_len]
    omega
  · rw [List.getElem_take, List.getElem_drop, someT_get, someT_get]
    congr 1
    omega
theorem txt_range {w : World} {b : Nat} {T : Text} (h : Txt w (some ⟨b, 0, none⟩) T) : w.rangeAt b 0 (T.map cellOf) := fun j u hu => by
  have := h.news j u hu
  rwa [Addr.add_mid] at this
theorem OwnT.shape {B : Nat} {v : Value} {L : List Text} {W : World} (h : OwnT B v L W) : ∃ A c, v = .slice A L.length c := by
  obtain ⟨xs, h1, _⟩ := h
  rcases h1.2 with ⟨rfl, h0⟩ | ⟨g, c, cur, rfl, _⟩
  · exact ⟨none, 0, by rw [h0]⟩
  · exact ⟨_, _, rfl⟩
/-- a row grown, blocks below another base but one are as they were -/
theorem ChgD.grow {w a b : World} {hb : Nat} {row : Option Nat} (h : ChgD w a hb hb) (hg : a.grownBy b row) (hr : ∀ k, row = some k → w.heap.size ≤ k) : ChgD w b hb hb :=
  ⟨hg.os.trans h.os, hg.tape.trans h.tape, hg.output.trans h.output, Nat.le_trans h.size hg.size, fun k hk h1 h2 => (hg.block k (Nat.lt_of_lt_of_le hk h.size) (fun e => by have := hr k e.symm; omega)).trans (h.block k hk h1 h2)⟩
theorem ChgD.more {w a b : World} {hb : Nat} (h : ChgD w a hb hb) (k : Below a.heap.size a b) : ChgD w b hb hb := h.trans (ChgD.of_below k)
theorem ChgD.box {w a : World} {hb : Nat} (h : ChgD w a hb hb) (u : Array Value) : ChgD w (a.setRow hb u) hb hb :=
  ⟨h.os, h.tape, h.output, by simpa [World.setRow] using h.size, fun k hk h1 h2 => (setRow_other _ _ _ _ h1).trans (h.block k hk h1 h2)⟩
end Go.Proofs.Ytmgonokhgijgoaa
