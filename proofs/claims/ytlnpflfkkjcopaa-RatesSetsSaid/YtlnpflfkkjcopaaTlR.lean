/- What is set, in whatever order, and the line's own order. -/
import Derived.Test.YtlnpflfkkjcopaaTlN
namespace Go.Proofs.Ytlnpflfkkjcopaa
open Go.RowKit
set_option maxRecDepth 100000

/-- a line's spans, and the same as they were set -/
structure Inv (L w : List Sp) : Prop where
  perm : L.Perm w
  ok : ∀ p ∈ L, isSp p.1 p.2.1
  chain : L.Pairwise (fun p q => p.2.1 < q.1)

theorem sum_perm {l m : List Int} (h : l.Perm m) : l.sum = m.sum := by
  induction h with
  | nil => rfl
  | cons x _ ih => simp only [List.sum_cons, ih]
  | swap x y l => simp only [List.sum_cons]; omega
  | trans _ _ h1 h2 => rw [h1, h2]
theorem gapL_perm {f u : Int} {L w : List Sp} (h : L.Perm w) : gapL f u L = gapL f u w := by
  unfold gapL
  rw [sum_perm (h.map (cutN f u))]
/-- does one of them clash? -/
def hits (f u : Int) (w : List Sp) : Bool := w.any (fun p => decide (p.1 ≤ u) && decide (f ≤ p.2.1))
theorem hits_perm {f u : Int} {L w : List Sp} (h : L.Perm w) : hits f u L = hits f u w := by
  unfold hits
  rw [Bool.eq_iff_iff, List.any_eq_true, List.any_eq_true]
  exact ⟨fun ⟨p, hp, hq⟩ => ⟨p, h.mem_iff.1 hp, hq⟩, fun ⟨p, hp, hq⟩ => ⟨p, h.mem_iff.2 hp, hq⟩⟩
theorem cut_pos' {f u : Int} {p : Sp} : 0 < cutN f u p ↔ meetB f u p.1 p.2.1 = true := by
  have h := cut_bd f u p
  unfold cutN meetU meetF at *
  by_cases hb : meetB f u p.1 p.2.1 = true
  · rw [if_pos hb, if_pos hb, if_pos hb] at *
    obtain ⟨_, _, h1, h2, h3⟩ := (meet_iff _ _ _ _).1 (of_decide_eq_true hb)
    exact ⟨fun _ => hb, fun _ => by omega⟩
  · rw [if_neg hb]
    exact ⟨fun h => absurd h (by omega), fun h => absurd h hb⟩
theorem gap_hits {f u : Int} (hs : isSp f u) : ∀ L : List Sp, (∀ p ∈ L, isSp p.1 p.2.1) → (gapL f u L < u - f + 1 ↔ hits f u L = true) := by
  intro L
  have key : ∀ L : List Sp, (∀ p ∈ L, isSp p.1 p.2.1) → (0 < (L.map (cutN f u)).sum ↔ hits f u L = true) := by
    intro L
    induction L with
    | nil => intro _; simp [hits]
    | cons p L ih =>
      intro hp
      have h0 := cut_bd f u p
      have h1 := cuts_bd f u L
      have h2 := ih (fun q hq => hp q (List.mem_cons_of_mem _ hq))
      have h3 := cut_pos' (f := f) (u := u) (p := p)
      have h4 := hp p List.mem_cons_self
      have h5 : meetB f u p.1 p.2.1 = true ↔ (p.1 ≤ u ∧ f ≤ p.2.1) := by
        unfold meetB
        rw [decide_eq_true_iff]
        exact ⟨fun h => ⟨h.2.2.1, h.2.2.2⟩, fun h => ⟨hs, h4, h.1, h.2⟩⟩
      have h6 : hits f u (p :: L) = true ↔ ((p.1 ≤ u ∧ f ≤ p.2.1) ∨ hits f u L = true) := by
        unfold hits
        simp
      rw [h6, ← h5, ← h3, ← h2]
      simp only [List.map_cons, List.sum_cons]
      omega
  intro hp
  rw [← key L hp]
  unfold gapL
  omega
/-- the document's answer -/
def refE (most : Nat) (w : List Sp) (f u : Int) : Int := if isSp f u then (if hits f u w = true then 50 else if most ≤ w.length then 31 else 0) else 30
theorem setE_ref {most : Nat} {L w : List Sp} {f u : Int} (h : Inv L w) : setE most L f u = refE most w f u := by
  unfold setE refE
  by_cases hs : isSp f u
  · rw [if_pos hs, if_pos hs, ← hits_perm h.perm, ← h.perm.length_eq]
    by_cases hh : hits f u L = true
    · rw [if_pos hh, if_pos ((gap_hits hs L h.ok).2 hh)]
    · rw [if_neg hh, if_neg (fun k => hh ((gap_hits hs L h.ok).1 k))]
  · rw [if_neg hs, if_neg hs]
def refL (most : Nat) (w : List Sp) (p : Sp) : List Sp := if refE most w p.1 p.2.1 = 0 then w ++ [p] else w

/-- those that begin ahead stand ahead -/
theorem pos_split {f : Int} : ∀ {L : List Sp}, L.Pairwise (fun p q => p.1 < q.1) → (∀ p ∈ L.take (pos f L), p.1 < f) ∧ (∀ p ∈ L.drop (pos f L), f ≤ p.1) := by
  intro L
  induction L with
  | nil => intro _; simp
  | cons q L ih =>
    intro h
    obtain ⟨h1, h2⟩ := List.pairwise_cons.1 h
    obtain ⟨i1, i2⟩ := ih h2
    by_cases hq : q.1 < f
    · have e : pos f (q :: L) = pos f L + 1 := by unfold pos; simp [hq]
      rw [e]
      refine ⟨fun p hp => ?_, fun p hp => i2 p (by simpa using hp)⟩
      rw [List.take_succ_cons] at hp
      rcases List.mem_cons.1 hp with rfl | hp
      · exact hq
      · exact i1 p hp
    · have hall : ∀ p ∈ L, ¬ p.1 < f := fun p hp => by have := h1 p hp; omega
      have e : pos f (q :: L) = 0 := by
        unfold pos
        rw [List.filter_cons_of_neg (by simpa using hq), List.filter_eq_nil_iff.2 (fun p hp => by simpa using hall p hp)]
        rfl
      rw [e]
      refine ⟨fun p hp => by simp at hp, fun p hp => ?_⟩
      rcases List.mem_cons.1 (by simpa using hp) with rfl | hp
      · omega
      · have := hall p hp; omega
theorem Inv.inc {L w : List Sp} (h : Inv L w) : L.Pairwise (fun p q => p.1 < q.1) :=
  h.chain.imp_of_mem (fun {p q} hp _ hlt => by have := (h.ok p hp).2.1; omega)
theorem ins_perm (L : List Sp) (i : Nat) (x : Sp) : (insL L i x).Perm (x :: L) := by
  unfold insL
  have := List.perm_middle (a := x) (l₁ := L.take i) (l₂ := L.drop i)
  rwa [List.take_append_drop] at this
theorem Inv.set {most : Nat} {L w : List Sp} {p : Sp} (h : Inv L w) : Inv (setL most L p) (refL most w p) := by
  unfold setL refL
  rw [setE_ref h]
  by_cases he : refE most w p.1 p.2.1 = 0
  · rw [if_pos he, if_pos he]
    have hs : isSp p.1 p.2.1 := by
      unfold refE at he
      split at he
      · assumption
      · cases he
    have hh : hits p.1 p.2.1 L = false := by
      unfold refE at he
      rw [if_pos hs, ← hits_perm h.perm] at he
      split at he
      · cases he
      · simpa using ‹¬ hits p.1 p.2.1 L = true›
    have ha : ∀ q ∈ L, q.2.1 < p.1 ∨ p.2.1 < q.1 := fun q hq => by
      unfold hits at hh
      have := List.any_eq_false.1 hh q hq
      simp at this
      omega
    obtain ⟨s1, s2⟩ := pos_split (f := p.1) h.inc
    refine ⟨?_, ?_, ?_⟩
    · exact (ins_perm L _ p).trans ((List.Perm.cons p h.perm).trans (List.perm_append_comm (l₁ := [p]) (l₂ := w)))
    · intro q hq
      rcases List.mem_cons.1 ((ins_perm L _ p).mem_iff.1 hq) with rfl | hq
      · exact hs
      · exact h.ok q hq
    · unfold insL
      have hch := h.chain
      rw [← List.take_append_drop (pos p.1 L) L] at hch
      obtain ⟨c1, c2, c3⟩ := List.pairwise_append.1 hch
      refine List.pairwise_append.2 ⟨c1, List.pairwise_cons.2 ⟨fun q hq => ?_, c2⟩, fun q hq r hr => ?_⟩
      · have h1 := s2 q hq
        have h2 := ha q (List.mem_of_mem_drop hq)
        have h3 := (h.ok q (List.mem_of_mem_drop hq)).2.1
        rcases h2 with h2 | h2
        · omega
        · exact h2
      · rcases List.mem_cons.1 hr with rfl | hr
        · have h1 := s1 q hq
          have h2 := ha q (List.mem_of_mem_take hq)
          have h3 := hs.2.1
          rcases h2 with h2 | h2
          · exact h2
          · omega
        · exact c3 q hq r hr
  · rw [if_neg he, if_neg he]
    exact h
theorem Inv.nil : Inv [] [] := ⟨List.Perm.refl _, fun p hp => (by cases hp), List.Pairwise.nil⟩
/-- on each day one holds at most -/
theorem chain_one {day : Int} : ∀ {L : List Sp}, L.Pairwise (fun p q => p.2.1 < q.1) → ∀ p ∈ L, ∀ q ∈ L, onP day p = true → onP day q = true → p = q := by
  intro L
  induction L with
  | nil => intro _ p hp; cases hp
  | cons a L ih =>
    intro h p hp q hq h1 h2
    obtain ⟨c1, c2⟩ := List.pairwise_cons.1 h
    have e1 := of_decide_eq_true h1
    have e2 := of_decide_eq_true h2
    rcases List.mem_cons.1 hp with hp' | hp' <;> rcases List.mem_cons.1 hq with hq' | hq'
    · rw [hp', hq']
    · subst hp'
      have := c1 q hq'; omega
    · subst hq'
      have := c1 p hp'; omega
    · exact ih c2 p hp' q hq' h1 h2
theorem Inv.find {L w : List Sp} (h : Inv L w) (day : Int) : L.find? (onP day) = w.find? (onP day) := by
  cases h1 : L.find? (onP day) with
  | none =>
    symm
    rw [List.find?_eq_none]
    intro p hp
    exact List.find?_eq_none.1 h1 p (h.perm.mem_iff.2 hp)
  | some p =>
    have hp := List.mem_of_find?_eq_some h1
    have hp2 := List.find?_some h1
    cases h2 : w.find? (onP day) with
    | none => exact absurd hp2 (List.find?_eq_none.1 h2 p (h.perm.mem_iff.1 hp))
    | some q =>
      have hq := List.mem_of_find?_eq_some h2
      have hq2 := List.find?_some h2
      rw [chain_one h.chain p hp q (h.perm.mem_iff.2 hq) hp2 hq2]
theorem Inv.at_ {L w : List Sp} (h : Inv L w) (day : Int) : atX L day = atX w day ∧ atB L day = atB w day := by
  unfold atX atB
  rw [h.find day]
  exact ⟨rfl, rfl⟩
theorem Inv.gap {L w : List Sp} (h : Inv L w) (f u : Int) : gapV f u L = gapV f u w := by
  unfold gapV
  rw [gapL_perm h.perm]
end Go.Proofs.Ytlnpflfkkjcopaa
