/- Slices of bytes in a slice of the call's own. -/
import Derived.Test.YthgpdfdijcabeaaDraw
import Derived.Test.YthgpdfdijcabeaaOwn
import Derived.Test.YthgpdfdijcabeaaLawEndRows
namespace Go.Proofs.Ythgpdfdijcabeaa
open Go.RowKit
set_option maxRecDepth 100000

theorem rowFact : (Try.prog.info? 22).map (fun i => (i.zero, i.size, i.bytes)) = some (some (.slice none 0 0), 1, 24) := by kernel_rfl
theorem own_on {w w' : World} {B : Nat} {e : TypeId} {v : Value} {n : Nat} {xs : List Value} (h : w.ownsRow B e 1 v n xs) (hb : Below w.heap.size w w') : w'.ownsRow B e 1 v n xs :=
  h.kept (row := none) ⟨hb.os, hb.tape, hb.output, hb.size, fun k hk _ => hb.block k hk⟩ (by
    rcases h.2 with ⟨rfl, _⟩ | ⟨g, c, cur, rfl, _⟩
    · exact .inl rfl
    · exact .inr (by simp [Value.ownBlock]))
/-- texts in a row of the call's own, each in a block that is not the row's -/
def OwnT (B : Nat) (v : Value) (L : List Text) (W : World) : Prop :=
  ∃ xs : List Value, W.ownsRow B 22 1 v L.length xs ∧ ∀ j (h : j < L.length), ∃ b c, xs[j]? = some (.slice (some ⟨b, 0, none⟩) L[j].length c) ∧ L[j].length ≤ c ∧ c ≤ maxLen ∧ W.rangeAt b 0 (L[j].map cellOf) ∧ b < W.heap.size ∧ v.ownBlock ≠ some b ∧ 0 < L[j].length
theorem OwnT.on {B : Nat} {v : Value} {L : List Text} {W W' : World} (h : OwnT B v L W) (hb : Below W.heap.size W W') : OwnT B v L W' := by
  obtain ⟨xs, h1, h2⟩ := h
  refine ⟨xs, own_on h1 hb, fun j hj => ?_⟩
  obtain ⟨b, c, e, hc, hm, hr, hl, hn⟩ := h2 j hj
  exact ⟨b, c, e, hc, hm, range_on hb hr, Nat.lt_of_lt_of_le hl hb.size, hn⟩
/-- a block turned that is neither the row's nor a text's -/
theorem OwnT.turn {B : Nat} {v : Value} {L : List Text} {W W' : World} (h : OwnT B v L W) (g : Nat) (hs : W.heap.size ≤ W'.heap.size) (hk : ∀ k, k < W.heap.size → k ≠ g → W'.heap[k]? = W.heap[k]?)
    (hv : v.ownBlock ≠ some g) (hg : ∀ j (hj : j < L.length) b c xs, W.ownsRow B 22 1 v L.length xs → xs[j]? = some (.slice (some ⟨b, 0, none⟩) L[j].length c) → W.rangeAt b 0 (L[j].map cellOf) → 0 < L[j].length → b ≠ g) : OwnT B v L W' := by
  obtain ⟨xs, h1, h2⟩ := h
  refine ⟨xs, ⟨h1.1, ?_⟩, fun j hj => ?_⟩
  · rcases h1.2 with hn | ⟨g', cap, cur, rfl, hb, hgg, rest⟩
    · exact .inl hn
    · refine .inr ⟨g', cap, cur, rfl, hb, ?_, rest⟩
      rw [hk g' (heapLt hgg) (fun e => hv (by simp [Value.ownBlock, e]))]
      exact hgg
  · obtain ⟨b, c, e, hc, hm, hr, hl, hn⟩ := h2 j hj
    exact ⟨b, c, e, hc, hm, fun i u hu => (World.cell?_of_block (hk b hl (hg j hj b c xs h1 e hr hn.2))).trans (hr i u hu), Nat.lt_of_lt_of_le hl hs, hn⟩
theorem OwnT.form {B : Nat} {v : Value} {L : List Text} {W : World} (h : OwnT B v L W) (hn : 0 < L.length) : ∃ g c, v = .slice (some ⟨g, 0, none⟩) L.length c ∧ B ≤ g ∧ g < W.heap.size ∧ L.length ≤ c := by
  obtain ⟨xs, h1, _⟩ := h
  rcases h1.2 with ⟨_, h0⟩ | ⟨g, c, cur, rfl, hB, hh, hc, _⟩
  · omega
  · exact ⟨g, c, rfl, hB, heapLt hh, hc⟩
theorem OwnT.isSlice {B : Nat} {v : Value} {L : List Text} {W : World} (h : OwnT B v L W) : ∃ A n c, v = .slice A n c := by
  obtain ⟨xs, h1, _⟩ := h
  rcases h1.2 with ⟨rfl, _⟩ | ⟨g, c, cur, rfl, _⟩
  · exact ⟨_, _, _, rfl⟩
  · exact ⟨_, _, _, rfl⟩
theorem OwnT.nil (B : Nat) (W : World) : OwnT B (.slice none 0 0) [] W := ⟨[], World.ownsRow_nil _ _ _ _, fun j hj => absurd hj (Nat.not_lt_zero j)⟩
/-- what stands there: each text's slice, and its bytes -/
theorem OwnT.at_ {B : Nat} {v : Value} {L : List Text} {W : World} {g : Nat} {n c : Nat} (h : OwnT B v L W) (hv : v = .slice (some ⟨g, 0, none⟩) n c) (j : Nat) (hj : j < L.length) :
    ∃ b c, W.cell? ⟨g, j, none⟩ = some (.slice (some ⟨b, 0, none⟩) L[j].length c) ∧ L[j].length ≤ c ∧ c ≤ maxLen ∧ W.rangeAt b 0 (L[j].map cellOf) ∧ b < W.heap.size ∧ 0 < L[j].length := by
  obtain ⟨xs, h1, h2⟩ := h
  obtain ⟨b, c', e, hc, hm, hr, hl, _, hz⟩ := h2 j hj
  refine ⟨b, c', ?_, hc, hm, hr, hl, hz⟩
  have := h1.cells (g := g) (by rw [hv]; rfl) j _ e
  rwa [Addr.add_mid, Nat.zero_add] at this
theorem OwnT.rows {B : Nat} {v : Value} {L : List Text} {W : World} {g : Nat} {n c : Nat} (h : OwnT B v L W) (hv : v = .slice (some ⟨g, 0, none⟩) n c) : TextRows W (some ⟨g, 0, none⟩) L := fun i hi => by
  obtain ⟨b, c', h1, h2, h3, h4, h5⟩ := h.at_ hv i hi
  exact ⟨_, _, c', rfl, by have := block_lt_of_cell h1; exact this, by rw [Addr.add_mid, Nat.zero_add]; exact h1, mid_txt h4, fun e => (by cases e), Nat.le_trans h2 (Nat.le_trans h3 (by unfold maxLen; omega))⟩
theorem OwnT.one {W : World} {B b c m : Nat} {T : Text} (hm : T.length = m) (hm0 : 0 < m) (hB : B ≤ W.heap.size) (hc : m ≤ c) (hcm : c ≤ maxLen) (hr : W.rangeAt b 0 (T.map cellOf)) (hb : b < W.heap.size) :
    OwnT B (.slice (some ⟨W.heap.size, 0, none⟩) 1 1) [T] (W.alloc (.cells #[.slice (some ⟨b, 0, none⟩) m c] 22)) := by
  subst hm
  refine ⟨[.slice (some ⟨b, 0, none⟩) T.length c], World.ownsRow_lit W #[.slice (some ⟨b, 0, none⟩) T.length c] 1 hB (by unfold maxLen; omega) rfl, fun j hj => ?_⟩
  obtain rfl : j = 0 := by simp at hj; exact hj
  exact ⟨b, c, rfl, hc, hcm, range_on (below_alloc _ _) hr, by simp; omega, by simp [Value.ownBlock]; omega, hm0⟩

theorem append_rows_run (w : World) (B : Nat) (v : Value) (L : List Text) (hown : OwnT B v L w) (g b c m : Nat) (T : Text) (t : TypeId) (fr : Nat × Nat) (hg : w.heap[g]? = some (.cells #[.slice (some ⟨b, 0, none⟩) m c] t fr)) (hT : T.length = m) (hm0 : 0 < m) (hc : m ≤ c) (hcm : c ≤ maxLen)
    (hr : w.rangeAt b 0 (T.map cellOf)) (hb : b < w.heap.size) (hne : v.ownBlock ≠ some b) (hL : L.length ≤ 100000) (hB : B ≤ w.heap.size) :
    ∃ v' w', (Builtin.append_ #[24, 24] 24 #[v, .slice (some ⟨g, 0, none⟩) 1 1]).run Try.prog w = .ok v' w' ∧ OwnT B v' (L ++ [T]) w' ∧ w.grownBy w' v.ownBlock ∧ (v'.ownBlock = v.ownBlock ∨ v'.ownBlock = some w.heap.size) := by
  subst hT
  obtain ⟨xs, h1, h2⟩ := hown
  obtain ⟨i0, hi, hz0, hz1, hz2⟩ := info_parts rowFact
  obtain ⟨v', w', q1, q2, q3, _, q5⟩ := run_append_own_at (P := Try.prog) w B 24 24 22 i0 (.slice none 0 0) 1 24 Try.underlying24 hi hz0 hz1 hz2 rfl (by decide) v L.length xs h1 ⟨g, 0, none⟩ 1 1 [.slice (some ⟨b, 0, none⟩) T.length c] (by simp)
    (fun j u hu => by
      have hj : j = 0 := by
        have := (List.getElem?_eq_some_iff.1 hu).1
        simp at this
        exact this
      subst hj
      rw [Addr.add_mid, Nat.zero_add, cell_of_row w g _ _ _ _ hg]
      simpa using hu) (fun u hu => by simp at hu; subst hu; rfl) (by unfold maxLen; omega) (by omega) hB
  refine ⟨v', w', q1, ⟨xs ++ [.slice (some ⟨b, 0, none⟩) T.length c], by rw [List.length_append]; exact q2, fun j hj => ?_⟩, q3, q5⟩
  have hxs : xs.length = L.length := by have := h1.1; omega
  have far : ∀ k, k < w.heap.size → v.ownBlock ≠ some k → v'.ownBlock ≠ some k := fun k hk hv e => by
    rcases q5 with q5 | q5
    · exact hv (q5.symm.trans e)
    · rw [q5] at e
      injection e with e
      omega
  by_cases hj2 : j < L.length
  · obtain ⟨b', c', e, e1, e2, e3, e4, e5, e6⟩ := h2 j hj2
    rw [List.getElem_append_left hj2]
    refine ⟨b', c', by rw [List.getElem?_append_left (by omega)]; exact e, e1, e2, fun i u hu => q3.cell (e3 i u hu) (Ne.symm e5), Nat.lt_of_lt_of_le e4 q3.size, far b' e4 e5, e6⟩
  · have hj3 : j = L.length := by rw [List.length_append] at hj; simp at hj; omega
    subst hj3
    rw [List.getElem_append_right (Nat.le_refl _)]
    simp only [Nat.sub_self, List.getElem_singleton]
    refine ⟨b, c, by rw [List.getElem?_append_right (by omega), hxs]; simp, hc, hcm, fun i u hu => q3.cell (hr i u hu) (Ne.symm hne), Nat.lt_of_lt_of_le hb q3.size, far b hb hne, hm0⟩
theorem wp_append_rows {w : World} {o : Oper} {a : Act} {K : Act → World → Prop} {Q : Exit → Act → World → Prop} (s x : Operand)
    (ho : o.op = .call { callee := .builtin .append, args := #[s, x], argTypes := #[24, 24] }) (hty : o.type = 24)
    (B : Nat) (v : Value) (L : List Text) (hs : a.eval s = v) (hown : OwnT B v L w) (g : Nat) (hx : a.eval x = .slice (some ⟨g, 0, none⟩) 1 1) (b c m : Nat) (T : Text) (t : TypeId) (fr : Nat × Nat) (hg : w.heap[g]? = some (.cells #[.slice (some ⟨b, 0, none⟩) m c] t fr)) (hT : T.length = m) (hm0 : 0 < m) (hc : m ≤ c) (hcm : c ≤ maxLen)
    (hr : w.rangeAt b 0 (T.map cellOf)) (hb : b < w.heap.size) (hne : v.ownBlock ≠ some b) (hL : L.length ≤ 100000) (hB : B ≤ w.heap.size)
    (h : ∀ v' w', OwnT B v' (L ++ [T]) w' → w.grownBy w' v.ownBlock → (v'.ownBlock = v.ownBlock ∨ v'.ownBlock = some w.heap.size) → K (a.put o.dst v') w') : o.wp Try.prog a w K Q := by
  obtain ⟨v', w', q1, q2, q3, q4⟩ := append_rows_run w B v L hown g b c m T t fr hg hT hm0 hc hcm hr hb hne hL hB
  unfold Oper.wp execOp
  simp only [ho, hty, resolve, invoke, builtin, Sem.run_bind, Sem.run_pure, Result.andThen_ok, List.map_toArray, List.map_cons, List.map_nil, hs, hx, q1]
  exact h v' w' q2 q3 q4
theorem wpList_append_rows {w : World} {ops : Array Oper} {rest : List Oper} {o : Oper} {a : Act} {Q : Exit → Act → World → Prop} (hgd : o.guard = none) (s x : Operand)
    (ho : o.op = .call { callee := .builtin .append, args := #[s, x], argTypes := #[24, 24] }) (hty : o.type = 24)
    (B : Nat) (v : Value) (L : List Text) (hs : a.eval s = v) (hown : OwnT B v L w) (g : Nat) (hx : a.eval x = .slice (some ⟨g, 0, none⟩) 1 1) (b c m : Nat) (T : Text) (t : TypeId) (fr : Nat × Nat) (hg : w.heap[g]? = some (.cells #[.slice (some ⟨b, 0, none⟩) m c] t fr)) (hT : T.length = m) (hm0 : 0 < m) (hc : m ≤ c) (hcm : c ≤ maxLen)
    (hr : w.rangeAt b 0 (T.map cellOf)) (hb : b < w.heap.size) (hne : v.ownBlock ≠ some b) (hL : L.length ≤ 100000) (hB : B ≤ w.heap.size)
    (h : ∀ v' w', OwnT B v' (L ++ [T]) w' → w.grownBy w' v.ownBlock → (v'.ownBlock = v.ownBlock ∨ v'.ownBlock = some w.heap.size) → wpList Try.prog ops Q rest (a.put o.dst v') w') : wpList Try.prog ops Q (o :: rest) a w :=
  wpList_plain hgd fun _ hK => wp_append_rows s x ho hty B v L hs hown g hx b c m T t fr hg hT hm0 hc hcm hr hb hne hL hB fun v' w' q1 q2 q3 => hK _ _ (h v' w' q1 q2 q3)
end Go.Proofs.Ythgpdfdijcabeaa
