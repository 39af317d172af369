/- What a statement on a writer has as it goes. -/
import Derived.Test.YtjcjnokpbhmmiaaBlobOps
namespace Go.Proofs.Ytjcjnokpbhmmiaa
open Go.RowKit
set_option maxRecDepth 100000

theorem below_tr {B : Nat} {a b c : World} (h : Below B a b) (k : Below b.heap.size b c) (hB : B ≤ a.heap.size) : Below B a c := h.trans (k.mono (Nat.le_trans hB h.size))
theorem own_chg {w w' : World} {B g n : Nat} {v u : Value} {xs : List Value} (h : w.ownsRow B 5 1 u n xs) (hc : Chg w w' g v) (h1 : u.ownBlock ≠ some g) (h2 : u.ownBlock = none ∨ u.ownBlock ≠ v.ownBlock) : w'.ownsRow B 5 1 u n xs := by
  refine ⟨h.1, ?_⟩
  rcases h.2 with h0 | ⟨k, c, cur, rfl, a1, a2, a3⟩
  · exact .inl h0
  · refine .inr ⟨k, c, cur, rfl, a1, ?_, a3⟩
    have e : (Value.slice (some ⟨k, 0, none⟩) n c).ownBlock = some k := rfl
    rw [e] at h1 h2
    rw [hc.block k (heap_lt a2) (fun e => h1 (by rw [e])) (by rcases h2 with h2 | h2; simp at h2; exact h2)]
    exact a2
theorem wrt_grown {w w' : World} {B g : Nat} {S : Option Text} {v : Value} {row : Option Nat} (h : Wrt w B g S v) (hg : w.grownBy w' row) (h1 : row ≠ some g) (h2 : v.ownBlock = none ∨ v.ownBlock ≠ row) : Wrt w' B g S v :=
  ⟨(hg.block g h.lt (fun e => h1 e.symm)).trans h.1, h.2.1, h.2.2.1.kept hg h2, h.2.2.2⟩

/-- what the statement has as it goes: a writer, and the document's bytes, that lie elsewhere -/
def Both (w0 : World) (g : Nat) (S : Option Text) (v u : Value) (J : Text) (w : World) : Prop :=
  Wrt w w0.heap.size g S v ∧ w.ownsRow w0.heap.size 5 1 u J.length (J.map cellOf) ∧ u.ownBlock ≠ some g ∧ (u.ownBlock = none ∨ u.ownBlock ≠ v.ownBlock) ∧ (∀ T, S = some T → J = T) ∧ Below w0.heap.size w0 w
theorem both_put {w0 w w' : World} {g : Nat} {S d : Option Text} {v u v' : Value} {J : Text} (h : Both w0 g S v u J w) (h1 : Wrt w' w0.heap.size g (nextS S d) v') (h2 : Chg w w' g v) (h3 : v'.ownBlock = v.ownBlock ∨ v'.ownBlock = none ∨ ∃ k, v'.ownBlock = some k ∧ w.heap.size ≤ k) :
    Wrt w' w0.heap.size g (nextS S d) v' ∧ w'.ownsRow w0.heap.size 5 1 u J.length (J.map cellOf) ∧ u.ownBlock ≠ some g ∧ (u.ownBlock = none ∨ u.ownBlock ≠ v'.ownBlock) ∧ Below w0.heap.size w0 w' := by
  obtain ⟨a, b, c, e, f, i⟩ := h
  refine ⟨h1, own_chg b h2 c e, c, ?_, i.trans (h2.below a i.size)⟩
  rcases h3 with h3 | h3 | ⟨k, h3, hk⟩
  · rw [h3]; exact e
  · rw [h3]
    rcases hu : u.ownBlock with _ | j
    · exact .inl rfl
    · exact .inr (by simp)
  · rw [h3]
    rcases hu : u.ownBlock with _ | j
    · exact .inl rfl
    · have := (b.lt j hu).2
      exact .inr (by simp; omega)
theorem both_below {w0 w w' : World} {g : Nat} {S : Option Text} {v u : Value} {J : Text} (h : Both w0 g S v u J w) (hb : Below w.heap.size w w') : Both w0 g S v u J w' :=
  ⟨h.1.below hb, own_below h.2.1 hb, h.2.2.1, h.2.2.2.1, h.2.2.2.2.1, below_tr h.2.2.2.2.2 hb (Nat.le_refl _)⟩
theorem both_append {w0 w w' : World} {g : Nat} {S : Option Text} {v u u' : Value} {J l : Text}
    (h : Wrt w w0.heap.size g S v ∧ w.ownsRow w0.heap.size 5 1 u J.length (J.map cellOf) ∧ u.ownBlock ≠ some g ∧ (u.ownBlock = none ∨ u.ownBlock ≠ v.ownBlock) ∧ Below w0.heap.size w0 w)
    (h1 : w'.ownsRow w0.heap.size 5 1 u' (J.length + l.length) (J.map cellOf ++ l.map cellOf)) (h2 : w.grownBy w' u.ownBlock) (h3 : u'.ownBlock = u.ownBlock ∨ u'.ownBlock = some w.heap.size) (h4 : ∀ T, S = some T → J ++ l = T) : Both w0 g S v u' (J ++ l) w' := by
  obtain ⟨a, b, c, e, i⟩ := h
  have hv : v.ownBlock = none ∨ v.ownBlock ≠ u.ownBlock := by
    rcases e with e | e
    · rcases hq : v.ownBlock with _ | j
      · exact .inl rfl
      · exact .inr (by rw [e]; simp)
    · exact .inr (fun h => e h.symm)
  refine ⟨wrt_grown a h2 c hv, by rw [List.length_append, List.map_append]; exact h1, ?_, ?_, h4, i.grown h2 i.size (fun k hk => (b.lt k hk).1)⟩
  · rcases h3 with h3 | h3
    · rw [h3]; exact c
    · rw [h3]; have := a.lt; simp; omega
  · rcases h3 with h3 | h3
    · rw [h3]; exact e
    · right
      rw [h3]
      intro hq
      have := (a.2.2.1.lt _ hq.symm).2
      omega
theorem next_text {S d : Option Text} {J : Text} (h : ∀ T, S = some T → J = T) : ∀ T, nextS S d = some T → J ++ d.getD [] = T := by
  intro T hT
  cases S with
  | none => simp [nextS] at hT
  | some T0 =>
    cases d with
    | none => simp [nextS] at hT
    | some l =>
      have := h T0 rfl
      subst this
      simpa [nextS] using hT
theorem next_some (S d : Option Text) : (nextS S d).isSome = (S.isSome && d.isSome) := by cases S <;> cases d <;> rfl
theorem next_len {S d : Option Text} {k : Nat} (h : (S.getD []).length ≤ 70000 * k) (hd : (d.getD []).length ≤ 70000) : ((nextS S d).getD []).length ≤ 70000 * (k + 1) := by
  cases S <;> cases d <;> simp [nextS] at *
  omega

theorem light_len {L : List OpV} (h : light L = true) : L.length ≤ 100 := by
  unfold light at h
  rw [Bool.and_eq_true] at h
  exact of_decide_eq_true h.2
end Go.Proofs.Ytjcjnokpbhmmiaa
