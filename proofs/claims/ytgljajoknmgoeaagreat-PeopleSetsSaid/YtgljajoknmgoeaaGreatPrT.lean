/- The document's line of spans: three cells each; what the program's line is against it. What holds on a day, by the document. The document's Set. -/
import Derived.Test.YtgljajoknmgoeaaGreatUlP
namespace Go.Proofs.YtgljajoknmgoeaaGreat
open Go.RowKit
set_option maxRecDepth 100000

def flatP (p : Sp) : List Value := [.int .i64 p.1, .int .i64 p.2.1, .int .i64 p.2.2]
def flat (L : List Sp) : List Value := L.flatMap flatP
theorem flat_len (L : List Sp) : (flat L).length = 3 * L.length := by
  induction L with
  | nil => rfl
  | cons p L ih =>
    have e : flat (p :: L) = flatP p ++ flat L := rfl
    rw [e, List.length_append, ih]
    simp [flatP]
    omega
theorem flat_at (L : List Sp) : ∀ (i : Nat) (h : i < L.length), (flat L)[3 * i]? = some (.int .i64 L[i].1) ∧ (flat L)[3 * i + 1]? = some (.int .i64 L[i].2.1) ∧ (flat L)[3 * i + 2]? = some (.int .i64 L[i].2.2) := by
  induction L with
  | nil => intro i h; simp at h
  | cons p L ih =>
    intro i h
    have e : flat (p :: L) = flatP p ++ flat L := rfl
    rw [e]
    cases i with
    | zero => exact ⟨rfl, rfl, rfl⟩
    | succ i =>
      obtain ⟨h0, h1, h2⟩ := ih i (by simpa using h)
      have hl : (flatP p).length = 3 := rfl
      refine ⟨?_, ?_, ?_⟩
      · rw [List.getElem?_append_right (by rw [hl]; omega), hl, show 3 * (i + 1) - 3 = 3 * i by omega]; simpa using h0
      · rw [List.getElem?_append_right (by rw [hl]; omega), hl, show 3 * (i + 1) + 1 - 3 = 3 * i + 1 by omega]; simpa using h1
      · rw [List.getElem?_append_right (by rw [hl]; omega), hl, show 3 * (i + 1) + 2 - 3 = 3 * i + 2 by omega]; simpa using h2
/-- at that address the spans lie, one behind the other; of none nothing is asked -/
def Row (w : World) (A : Option Addr) (L : List Sp) : Prop :=
  L ≠ [] → ∃ b o, A = some ⟨b, o, none⟩ ∧ b < w.heap.size ∧ w.rangeAt b o (flat L)
theorem Row.on {w W : World} {A : Option Addr} {L : List Sp} (h : Row w A L) (hb : Below w.heap.size w W) : Row W A L := fun hn => by
  obtain ⟨b, o, e, hl, hr⟩ := h hn
  exact ⟨b, o, e, Nat.lt_of_lt_of_le hl hb.size, fun j v hv => cell_on hb (hr j v hv)⟩
theorem Row.nil {w : World} {A : Option Addr} : Row w A [] := fun h => absurd rfl h
theorem Row.at_ {w : World} {A : Option Addr} {L : List Sp} (h : Row w A L) (i : Nat) (hi : i < L.length) : ∃ b o, A = some ⟨b, o, none⟩ ∧ b < w.heap.size ∧
    w.cell? ⟨b, o + i * 3, none⟩ = some (.int .i64 L[i].1) ∧ w.cell? ⟨b, o + i * 3 + 1, none⟩ = some (.int .i64 L[i].2.1) ∧ w.cell? ⟨b, o + i * 3 + 2, none⟩ = some (.int .i64 L[i].2.2) := by
  obtain ⟨b, o, e, hl, hr⟩ := h (by intro h0; subst h0; simp at hi)
  obtain ⟨h0, h1, h2⟩ := flat_at L i hi
  have g0 := hr _ _ h0
  have g1 := hr _ _ h1
  have g2 := hr _ _ h2
  rw [← Nat.add_assoc] at g1 g2
  rw [Nat.mul_comm 3 i] at g0 g1 g2
  exact ⟨b, o, e, hl, g0, g1, g2⟩

theorem flat_one (L : List Sp) : ∀ v ∈ flat L, v.oneCell' = true := by
  intro v hv
  obtain ⟨p, _, hp⟩ := List.mem_flatMap.1 hv
  simp [flatP] at hp
  rcases hp with rfl | rfl | rfl <;> rfl
theorem flat_append (L M : List Sp) : flat (L ++ M) = flat L ++ flat M := List.flatMap_append
theorem range3 {W : World} {g : Nat} {a b c : Value} {t : TypeId} (h : W.heap[g]? = some (.cells #[a, b, c] t (0, 0))) : W.rangeAt g 0 [a, b, c] := fun j v hv => by
  match j with
  | 0 => simp at hv; subst hv; rw [cell_of_row W g 0 _ _ _ h]; rfl
  | 1 => simp at hv; subst hv; rw [cell_of_row W g 1 _ _ _ h]; rfl
  | 2 => simp at hv; subst hv; rw [cell_of_row W g 2 _ _ _ h]; rfl
  | j + 3 => simp at hv
theorem hiN_comm (f g : Int) : hiN f g = hiN g f := by unfold hiN; split <;> split <;> omega
theorem loN_comm (f g : Int) : loN f g = loN g f := by unfold loN; split <;> split <;> omega
theorem meetB_comm (f u g v : Int) : meetB f u g v = meetB g v f u := by
  unfold meetB
  rw [decide_eq_decide]
  unfold meets
  constructor <;> intro h <;> exact ⟨h.2.1, h.1, h.2.2.2, h.2.2.1⟩
theorem meetF_comm (f u g v : Int) : meetF f u g v = meetF g v f u := by unfold meetF; rw [meetB_comm f u, hiN_comm f]
theorem meetU_comm (f u g v : Int) : meetU f u g v = meetU g v f u := by unfold meetU; rw [meetB_comm f u, loN_comm u]
def atX (L : List Sp) (day : Int) : Int := match L.find? (onP day) with | some p => p.2.2 | none => 0


/-- a line's spans, and the same as they were set -/
structure Inv (L w : List Sp) : Prop where
  perm : L.Perm w
  ok : ∀ p ∈ L, isSp p.1 p.2.1
  chain : L.Pairwise (fun p q => p.2.1 < q.1)

theorem sum_perm {l m : List Int} (h : l.Perm m) : l.sum = m.sum := by
  induction h with
  | nil => rfl
  | cons x _ ih => simp only [List.sum_cons, ih]
  | swap x y l => simp only [List.sum_cons]; omega
  | trans _ _ h1 h2 => rw [h1, h2]
theorem gapL_perm {f u : Int} {L w : List Sp} (h : L.Perm w) : gapL f u L = gapL f u w := by
  unfold gapL
  rw [sum_perm (h.map (cutN f u))]
/-- does one of them clash? -/
def hits (f u : Int) (w : List Sp) : Bool := w.any (fun p => decide (p.1 ≤ u) && decide (f ≤ p.2.1))
theorem hits_perm {f u : Int} {L w : List Sp} (h : L.Perm w) : hits f u L = hits f u w := by
  unfold hits
  rw [Bool.eq_iff_iff, List.any_eq_true, List.any_eq_true]
  exact ⟨fun ⟨p, hp, hq⟩ => ⟨p, h.mem_iff.1 hp, hq⟩, fun ⟨p, hp, hq⟩ => ⟨p, h.mem_iff.2 hp, hq⟩⟩
theorem cut_pos' {f u : Int} {p : Sp} : 0 < cutN f u p ↔ meetB f u p.1 p.2.1 = true := by
  have h := cut_bd f u p
  unfold cutN meetU meetF at *
  by_cases hb : meetB f u p.1 p.2.1 = true
  · rw [if_pos hb, if_pos hb, if_pos hb] at *
    obtain ⟨_, _, h1, h2, h3⟩ := (meet_iff _ _ _ _).1 (of_decide_eq_true hb)
    exact ⟨fun _ => hb, fun _ => by omega⟩
  · rw [if_neg hb]
    exact ⟨fun h => absurd h (by omega), fun h => absurd h hb⟩
theorem gap_hits {f u : Int} (hs : isSp f u) : ∀ L : List Sp, (∀ p ∈ L, isSp p.1 p.2.1) → (gapL f u L < u - f + 1 ↔ hits f u L = true) := by
  intro L
  have key : ∀ L : List Sp, (∀ p ∈ L, isSp p.1 p.2.1) → (0 < (L.map (cutN f u)).sum ↔ hits f u L = true) := by
    intro L
    induction L with
    | nil => intro _; simp [hits]
    | cons p L ih =>
      intro hp
      have h0 := cut_bd f u p
      have h1 := cuts_bd f u L
      have h2 := ih (fun q hq => hp q (List.mem_cons_of_mem _ hq))
      have h3 := cut_pos' (f := f) (u := u) (p := p)
      have h4 := hp p List.mem_cons_self
      have h5 : meetB f u p.1 p.2.1 = true ↔ (p.1 ≤ u ∧ f ≤ p.2.1) := by
        unfold meetB
        rw [decide_eq_true_iff]
        exact ⟨fun h => ⟨h.2.2.1, h.2.2.2⟩, fun h => ⟨hs, h4, h.1, h.2⟩⟩
      have h6 : hits f u (p :: L) = true ↔ ((p.1 ≤ u ∧ f ≤ p.2.1) ∨ hits f u L = true) := by
        unfold hits
        simp
      rw [h6, ← h5, ← h3, ← h2]
      simp only [List.map_cons, List.sum_cons]
      omega
  intro hp
  rw [← key L hp]
  unfold gapL
  omega
/-- the document's answer -/
def refE (most : Nat) (w : List Sp) (f u : Int) : Int := if isSp f u then (if hits f u w = true then 50 else if most ≤ w.length then 31 else 0) else 30
theorem setE_ref {most : Nat} {L w : List Sp} {f u : Int} (h : Inv L w) : setE most L f u = refE most w f u := by
  unfold setE refE
  by_cases hs : isSp f u
  · rw [if_pos hs, if_pos hs, ← hits_perm h.perm, ← h.perm.length_eq]
    by_cases hh : hits f u L = true
    · rw [if_pos hh, if_pos ((gap_hits hs L h.ok).2 hh)]
    · rw [if_neg hh, if_neg (fun k => hh ((gap_hits hs L h.ok).1 k))]
  · rw [if_neg hs, if_neg hs]
def refL (most : Nat) (w : List Sp) (p : Sp) : List Sp := if refE most w p.1 p.2.1 = 0 then w ++ [p] else w

/-- those that begin ahead stand ahead -/
theorem pos_split {f : Int} : ∀ {L : List Sp}, L.Pairwise (fun p q => p.1 < q.1) → (∀ p ∈ L.take (pos f L), p.1 < f) ∧ (∀ p ∈ L.drop (pos f L), f ≤ p.1) := by
  intro L
  induction L with
  | nil => intro _; simp
  | cons q L ih =>
    intro h
    obtain ⟨h1, h2⟩ := List.pairwise_cons.1 h
    obtain ⟨i1, i2⟩ := ih h2
    by_cases hq : q.1 < f
    · have e : pos f (q :: L) = pos f L + 1 := by unfold pos; simp [hq]
      rw [e]
      refine ⟨fun p hp => ?_, fun p hp => i2 p (by simpa using hp)⟩
      rw [List.take_succ_cons] at hp
      rcases List.mem_cons.1 hp with rfl | hp
      · exact hq
      · exact i1 p hp
    · have hall : ∀ p ∈ L, ¬ p.1 < f := fun p hp => by have := h1 p hp; omega
      have e : pos f (q :: L) = 0 := by
        unfold pos
        rw [List.filter_cons_of_neg (by simpa using hq), List.filter_eq_nil_iff.2 (fun p hp => by simpa using hall p hp)]
        rfl
      rw [e]
      refine ⟨fun p hp => by simp at hp, fun p hp => ?_⟩
      rcases List.mem_cons.1 (by simpa using hp) with rfl | hp
      · omega
      · have := hall p hp; omega
theorem Inv.inc {L w : List Sp} (h : Inv L w) : L.Pairwise (fun p q => p.1 < q.1) :=
  h.chain.imp_of_mem (fun {p q} hp _ hlt => by have := (h.ok p hp).2.1; omega)
theorem ins_perm (L : List Sp) (i : Nat) (x : Sp) : (insL L i x).Perm (x :: L) := by
  unfold insL
  have := List.perm_middle (a := x) (l₁ := L.take i) (l₂ := L.drop i)
  rwa [List.take_append_drop] at this
theorem Inv.set {most : Nat} {L w : List Sp} {p : Sp} (h : Inv L w) : Inv (setL most L p) (refL most w p) := by
  unfold setL refL
  rw [setE_ref h]
  by_cases he : refE most w p.1 p.2.1 = 0
  · rw [if_pos he, if_pos he]
    have hs : isSp p.1 p.2.1 := by
      unfold refE at he
      split at he
      · assumption
      · cases he
    have hh : hits p.1 p.2.1 L = false := by
      unfold refE at he
      rw [if_pos hs, ← hits_perm h.perm] at he
      split at he
      · cases he
      · simpa using ‹¬ hits p.1 p.2.1 L = true›
    have ha : ∀ q ∈ L, q.2.1 < p.1 ∨ p.2.1 < q.1 := fun q hq => by
      unfold hits at hh
      have := List.any_eq_false.1 hh q hq
      simp at this
      omega
    obtain ⟨s1, s2⟩ := pos_split (f := p.1) h.inc
    refine ⟨?_, ?_, ?_⟩
    · exact (ins_perm L _ p).trans ((List.Perm.cons p h.perm).trans (List.perm_append_comm (l₁ := [p]) (l₂ := w)))
    · intro q hq
      rcases List.mem_cons.1 ((ins_perm L _ p).mem_iff.1 hq) with rfl | hq
      · exact hs
      · exact h.ok q hq
    · unfold insL
      have hch := h.chain
      rw [← List.take_append_drop (pos p.1 L) L] at hch
      obtain ⟨c1, c2, c3⟩ := List.pairwise_append.1 hch
      refine List.pairwise_append.2 ⟨c1, List.pairwise_cons.2 ⟨fun q hq => ?_, c2⟩, fun q hq r hr => ?_⟩
      · have h1 := s2 q hq
        have h2 := ha q (List.mem_of_mem_drop hq)
        have h3 := (h.ok q (List.mem_of_mem_drop hq)).2.1
        rcases h2 with h2 | h2
        · omega
        · exact h2
      · rcases List.mem_cons.1 hr with rfl | hr
        · have h1 := s1 q hq
          have h2 := ha q (List.mem_of_mem_take hq)
          have h3 := hs.2.1
          rcases h2 with h2 | h2
          · exact h2
          · omega
        · exact c3 q hq r hr
  · rw [if_neg he, if_neg he]
    exact h
theorem Inv.nil : Inv [] [] := ⟨List.Perm.refl _, fun p hp => (by cases hp), List.Pairwise.nil⟩
/-- on each day one holds at most -/
theorem chain_one {day : Int} : ∀ {L : List Sp}, L.Pairwise (fun p q => p.2.1 < q.1) → ∀ p ∈ L, ∀ q ∈ L, onP day p = true → onP day q = true → p = q := by
  intro L
  induction L with
  | nil => intro _ p hp; cases hp
  | cons a L ih =>
    intro h p hp q hq h1 h2
    obtain ⟨c1, c2⟩ := List.pairwise_cons.1 h
    have e1 := of_decide_eq_true h1
    have e2 := of_decide_eq_true h2
    rcases List.mem_cons.1 hp with hp' | hp' <;> rcases List.mem_cons.1 hq with hq' | hq'
    · rw [hp', hq']
    · subst hp'
      have := c1 q hq'; omega
    · subst hq'
      have := c1 p hp'; omega
    · exact ih c2 p hp' q hq' h1 h2
theorem Inv.find {L w : List Sp} (h : Inv L w) (day : Int) : L.find? (onP day) = w.find? (onP day) := by
  cases h1 : L.find? (onP day) with
  | none =>
    symm
    rw [List.find?_eq_none]
    intro p hp
    exact List.find?_eq_none.1 h1 p (h.perm.mem_iff.2 hp)
  | some p =>
    have hp := List.mem_of_find?_eq_some h1
    have hp2 := List.find?_some h1
    cases h2 : w.find? (onP day) with
    | none => exact absurd hp2 (List.find?_eq_none.1 h2 p (h.perm.mem_iff.1 hp))
    | some q =>
      have hq := List.mem_of_find?_eq_some h2
      have hq2 := List.find?_some h2
      rw [chain_one h.chain p hp q (h.perm.mem_iff.2 hq) hp2 hq2]
theorem Inv.at_ {L w : List Sp} (h : Inv L w) (day : Int) : atX L day = atX w day ∧ atB L day = atB w day := by
  unfold atX atB
  rw [h.find day]
  exact ⟨rfl, rfl⟩
theorem Inv.gap {L w : List Sp} (h : Inv L w) (f u : Int) : gapV f u L = gapV f u w := by
  unfold gapV
  rw [gapL_perm h.perm]
theorem ref_spright (f u : Int) (w : World) : Calls Tryz.prog 44 #[.int .i64 f, .int .i64 u] w fun e w' => e = .returned (.bool (decide (isSp f u))) ∧ w = w' := by
  by_cases h1 : 0 ≤ f
  · by_cases h2 : u ≤ 2932896
    · by_cases h3 : f ≤ u
      · rw [decide_eq_true (show isSp f u from ⟨h1, h3, h2⟩)]
        go_enter Tryz.func44, Tryz.ntmps44
        go_wp2
        go_ret
        exact ⟨ret_bool (by simp), rfl⟩
      · rw [decide_eq_false (show ¬ isSp f u from fun h => h3 h.2.1)]
        go_enter Tryz.func44, Tryz.ntmps44
        go_wp2
        go_ret
        exact ⟨ret_bool (by simp), rfl⟩
    · rw [decide_eq_false (show ¬ isSp f u from fun h => h2 h.2.2)]
      go_enter Tryz.func44, Tryz.ntmps44
      go_wp2
      go_ret
      exact ⟨ret_bool (by simp), rfl⟩
  · rw [decide_eq_false (show ¬ isSp f u from fun h => h1 h.1)]
    go_enter Tryz.func44, Tryz.ntmps44
    go_wp2
    go_ret
    exact ⟨ret_bool (by simp), rfl⟩
theorem right_at {f u : Int} {q : Bool} (h : decide (isSp f u) = q) (w : World) : Calls Tryz.prog 44 #[.int .i64 f, .int .i64 u] w fun e w' => e = .returned (.bool q) ∧ w = w' := by
  rw [← h]
  exact ref_spright f u w
end Go.Proofs.YtgljajoknmgoeaaGreat

namespace Go.Proofs.YtgljajoknmgoeaaGreat
open Go.RowKit
set_option maxRecDepth 100000

theorem noOn_next {L : List Sp} {day : Int} {k : Nat} (hk : k < L.length) (h : NoOn day (L.take k)) (hx : onP day L[k] = false) : NoOn day (L.take (k + 1)) := by
  rw [List.take_succ_eq_append_getElem hk]
  exact find_none h hx
theorem take_split {L : List Sp} {k : Nat} (hk : k < L.length) : L = L.take k ++ L[k] :: L.drop (k + 1) := by
  conv => lhs; rw [← List.take_append_drop k L]
  rw [List.drop_eq_getElem_cons hk]
set_option maxHeartbeats 1000000 in
theorem ref_at (w : World) (A : Option Addr) (c : Nat) (L : List Sp) (day : Int) (hr : Row w A L) (hl : L.length ≤ 100) : Calls Tryz.prog 34 #[.slice A L.length c, .int .i64 day] w fun e w' => e = .returned (.tuple #[.int .i64 (atX L day), .bool (atB L day)]) ∧ w = w' := by
  have HR := Lib.hid hr
  have il : (L.length : Int) ≤ 100 := by omega
  clear hr
  go_enter Tryz.func34, Tryz.ntmps34
  go_wp2
  go_loop [6] (fun i => ∃ k : Nat, k ≤ L.length ∧ i = .int .i64 k ∧ Hid (NoOn day (L.take k))) (fun i => L.length - (intOf i).toNat)
  case atStart => exact ⟨0, Nat.zero_le _, rfl, Lib.hid rfl⟩
  case round =>
    obtain ⟨k, hk, rfl, HN⟩ := hrel
    by_cases hlt : k < L.length
    · have hlt' : (k : Int) < (L.length : Int) := by omega
      obtain ⟨b, o, rfl, hbl, x0, x1, x2⟩ := HR.out.at_ k hlt
      obtain ⟨x, hx⟩ : ∃ x, x = L[k] := ⟨_, rfl⟩
      rw [← hx] at x0 x1 x2
      have HX := Lib.hid hx
      clear hbl hx
      by_cases h1 : x.1 ≤ day
      · by_cases h2 : day ≤ x.2.1
        · have HF := Lib.hid (find_next (take_split hlt) HN.out (show onP day L[k] = true from by rw [← HX.out]; exact decide_eq_true ⟨h1, h2⟩))
          have HE : Hid (atX L day = x.2.2 ∧ atB L day = true) := Lib.hid ⟨by unfold atX; rw [HF.out, ← HX.out], by unfold atB; rw [HF.out]; rfl⟩
          go_wp2
          go_ret2
          exact ⟨by rw [HE.out.1, HE.out.2]; rfl, rfl⟩
        · have HF := Lib.hid (noOn_next hlt HN.out (show onP day L[k] = false from by rw [← HX.out]; exact decide_eq_false (fun h => h2 h.2)))
          go_wp2
          go_round
          case rel => exact ⟨k + 1, by omega, by simp, HF⟩
          case measure => simp [intOf]; omega
      · have HF := Lib.hid (noOn_next hlt HN.out (show onP day L[k] = false from by rw [← HX.out]; exact decide_eq_false (fun h => h1 h.1)))
        go_wp2
        go_round
        case rel => exact ⟨k + 1, by omega, by simp, HF⟩
        case measure => simp [intOf]; omega
    · obtain rfl : k = L.length := by omega
      have HE : Hid (atX L day = 0 ∧ atB L day = false) := Lib.hid (by
        have := HN.out
        rw [List.take_length] at this
        unfold NoOn at this
        exact ⟨by unfold atX; rw [this], by unfold atB; rw [this]; rfl⟩)
      go_wp2
      go_ret2
      exact ⟨by rw [HE.out.1, HE.out.2]; rfl, rfl⟩
end Go.Proofs.YtgljajoknmgoeaaGreat

namespace Go.Proofs.YtgljajoknmgoeaaGreat
open Go.RowKit
set_option maxRecDepth 100000

/-- a row of the document's spans, of the call's own -/
def OwnQ (w : World) (base : Nat) (v : Value) (L : List Sp) : Prop := w.ownsRow base 24 3 v L.length (flat L)
theorem spanFact : (Tryz.prog.info? 24).map (fun i => (i.zero, i.size, i.bytes)) = some (some (.agg #[.int .i64 0, .int .i64 0, .int .i64 0]), 3, 24) := by kernel_rfl
theorem OwnQ.on {w W : World} {B : Nat} {v : Value} {L : List Sp} (h : OwnQ w B v L) (hb : Below w.heap.size w W) : OwnQ W B v L :=
  World.ownsRow.kept (row := none) h ⟨hb.os, hb.tape, hb.output, hb.size, fun k hk _ => hb.block k hk⟩ (by
    rcases h.2 with ⟨rfl, _⟩ | ⟨g, c, cur, rfl, _⟩
    · exact .inl rfl
    · exact .inr (by simp [Value.ownBlock]))
theorem OwnQ.less {w : World} {B B' : Nat} {v : Value} {L : List Sp} (h : OwnQ w B v L) (hB : B' ≤ B) : OwnQ w B' v L := by
  refine ⟨h.1, ?_⟩
  rcases h.2 with h | ⟨g, c, cur, h1, h2, h3⟩
  · exact .inl h
  · exact .inr ⟨g, c, cur, h1, Nat.le_trans hB h2, h3⟩
theorem OwnQ.form {w : World} {B : Nat} {v : Value} {L : List Sp} (h : OwnQ w B v L) : ∃ A c, v = .slice A L.length c ∧ Row w A L ∧ (A = none → L = []) := by
  rcases h.2 with ⟨rfl, h0⟩ | ⟨g, c, cur, rfl, hB, hh, hc, hm, hcs, ht⟩
  · have : L = [] := List.eq_nil_of_length_eq_zero h0
    subst this
    exact ⟨none, 0, rfl, Row.nil, fun _ => rfl⟩
  · refine ⟨_, c, rfl, fun hn => ⟨g, 0, rfl, heapLt hh, fun j v hv => ?_⟩, fun e => by cases e⟩
    have := World.ownsRow.cells (g := g) h rfl j v hv
    rwa [Addr.add_mid] at this
theorem ownQ_nil (w : World) : OwnQ (w.alloc (.cells #[] 24)) w.heap.size (.slice (some ⟨w.heap.size, 0, none⟩) 0 0) [] :=
  World.ownsRow_lit w (e := 24) (base := w.heap.size) (size := 3) #[] 0 (Nat.le_refl _) (by unfold maxLen; omega) rfl
/-- what is appended to it, be the source nil or not -/
theorem append_q (w : World) (base : Nat) (v : Value) (L M : List Sp) (hown : OwnQ w base v L) (A : Option Addr) (c : Nat) (hr : Row w A M) (hA : A = none → M = []) (hl : L.length + M.length ≤ 1000) (hb : base ≤ w.heap.size) :
    ∃ v' w', (Builtin.append_ #[32, 32] 32 #[v, .slice A M.length c]).run Tryz.prog w = .ok v' w' ∧ OwnQ w' base v' (L ++ M) ∧ w.grownBy w' v.ownBlock := by
  obtain ⟨i0, hi, hz0, hz1, hz2⟩ := info_parts spanFact
  cases A with
  | none =>
    obtain rfl := hA rfl
    refine ⟨v, w, ?_, by simpa using hown, World.grownBy.refl w _⟩
    rcases hown.2 with ⟨rfl, h0⟩ | ⟨g, cap, cur, rfl, _, _, hnc, _⟩
    · simp [Builtin.append_, run_underlying Tryz.underlying32, sizeOf, typeInfo, hi, Builtin.lenOf, Builtin.firstCells]
    · simp [Builtin.append_, run_underlying Tryz.underlying32, sizeOf, typeInfo, hi, Builtin.lenOf, Builtin.firstCells, hnc, storeCells]
  | some a =>
    have hnews : ∀ j u, (flat M)[j]? = some u → w.cell? (a.add j) = some u := fun j u hu => by
      have hne : M ≠ [] := by
        intro e; subst e; simp [flat] at hu
      obtain ⟨b, o, e, _, hra⟩ := hr hne
      injection e with e
      subst e
      rw [Addr.add_mid]
      exact hra j u hu
    obtain ⟨v', w', h1, h2, h3, _⟩ := run_append_own (P := Tryz.prog) w base 32 32 24 i0 _ 3 24 Tryz.underlying32 hi hz0 hz1 hz2 rfl (by decide) v L.length (flat L) hown a M.length c (flat M) (by rw [flat_len]; omega) hnews (flat_one M) (by unfold maxLen; omega) (by omega) hb
    refine ⟨v', w', h1, ?_, h3⟩
    unfold OwnQ
    rw [flat_append, List.length_append]
    exact h2
theorem wp_append_q (w : World) {o : Oper} {a : Act} {K : Act → World → Prop} {Q : Exit → Act → World → Prop} (s x : Operand)
    (ho : o.op = .call { callee := .builtin .append, args := #[s, x], argTypes := #[32, 32] }) (hty : o.type = 32) (base : Nat) (v : Value) (L : List Sp) (hs : a.eval s = v) (hown : OwnQ w base v L)
    (A : Option Addr) (n c : Nat) (M : List Sp) (hx : a.eval x = .slice A n c) (hn : M.length = n) (hr : Row w A M) (hA : A = none → M = []) (hl : L.length + M.length ≤ 1000) (hb : base ≤ w.heap.size)
    (h : ∀ v' w', OwnQ w' base v' (L ++ M) → w.grownBy w' v.ownBlock → K (a.put o.dst v') w') : o.wp Tryz.prog a w K Q := by
  subst hn
  obtain ⟨v', w', hrun, h2, h3⟩ := append_q w base v L M hown A c hr hA hl hb
  unfold Oper.wp execOp
  simp only [ho, hty, resolve, invoke, builtin, Sem.run_bind, Sem.run_pure, Result.andThen_ok, List.map_toArray, List.map_cons, List.map_nil, hs, hx, hrun]
  exact h v' w' h2 h3
theorem box_row {W : World} {g : Nat} {f u x : Int} {t : TypeId} (h : W.heap[g]? = some (.cells #[.int .i64 f, .int .i64 u, .int .i64 x] t (0, 0))) : Row W (some ⟨g, 0, none⟩) [(f, u, x)] := fun _ => ⟨g, 0, rfl, heapLt h, range3 h⟩
end Go.Proofs.YtgljajoknmgoeaaGreat
