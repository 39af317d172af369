/- The statements' own example; a batch that is none. The statement on a batch's way back, walked. -/
import Derived.Test.YthgakgjhcadajaaJ19
import Derived.Test.YthgakgjhcadajaaJ20
import Derived.Lib.SlBytesConst
import Derived.Test.YthgakgjhcadajaaJ13
namespace Go.Proofs.Ythgakgjhcadajaa
open Go.RowKit
attribute [local go_sem] Oper.semAt_some
set_option maxRecDepth 100000

set_option maxHeartbeats 1000000 in
theorem code_pages_no (s : Int) (l : Text) (A : Option Addr) (c : Nat) (w : World) (hh : headOk s l.length = false) :
    Calls Try.prog 65 #[.int .i64 s, .slice A l.length c] w fun e w' => e = .returned (.tuple #[.slice none 0 0, .int .i64 2]) ∧ Below w.heap.size w w' := by
  have HH : Hid (∀ W, Calls Try.prog 70 #[headV s l.length 0] W fun e w' => e = .returned (.bool false) ∧ Below W.heap.size W w') := Lib.hid (fun W => by have := code_isHead s l.length 0 W; rwa [hh] at this)
  unfold headV at HH
  clear hh
  go_enter Try.func65, Try.ntmps65
  go_wp2_with (go_at_call 70; refine (HH.out _).mono ?_; rintro e w1 ⟨rfl, hb1⟩; have HB1 := Lib.hid (below_then (below_alloc w _) hb1); clear hb1)
  go_ret2
  exact ⟨rfl, HB1.out⟩
theorem rows_sub {w : World} {b o : Nat} {L : List Text} (h : TextRows w (some ⟨b, o, none⟩) L) (k m : Nat) : TextRows w (some ⟨b, o + k, none⟩) ((L.drop k).take m) := fun i hi => by
  have hi' : i < (L.drop k).length := by rw [List.length_take] at hi; omega
  have hk : k + i < L.length := by rw [List.length_drop] at hi'; omega
  obtain ⟨a, Ai, ci, e, hb, hc, hT, hn, hl⟩ := h (k + i) hk
  injection e with e
  subst e
  have e1 : ((L.drop k).take m)[i] = L[k + i] := by rw [List.getElem_take, List.getElem_drop]
  rw [e1]
  exact ⟨_, Ai, ci, rfl, hb, by rw [Addr.add_mid] at hc ⊢; rw [Nat.add_assoc]; exact hc, hT, hn, hl⟩
theorem yieldsIf_text {ops : Array Oper} {S : World → Prop} {o : Oper} {a : Act} (hw : Region.wanted o (yielded ops a.tmps) = true) (x : Operand) (ho : o.op = .convert 51 9 x) (A : Option Addr) (c n : Nat) (l : Text) (hn : l.length = n) (hx : a.eval x = .slice A n c)
    (hS : ∀ w, S w → Txt w A l) (hA : A = none → l = []) : YieldsIf Try.prog ops S o (.string ⟨l.toArray⟩) a := .inl ⟨hw, fun w hw' => by
  have hr := text_run_n w A c n l hn (hS w hw') hA
  unfold execOp
  simp only [ho, hx]
  rw [Sem.run_bind, hr]
  rfl⟩
def ab : Text := [97, 98]
theorem ab_pages : pagesT 3 ab = [headP 3 2 (sumN ab), cutT ab 0, endP 3 (sumN ab)] := rfl
theorem ab_cut : cutT ab 0 = ab ++ List.replicate 62 0 := by
  unfold cutT
  rw [overP_zeros _ (by decide)]
  rfl
theorem ab_len : ∀ (i : Nat) (h : i < [cutT ab 0].length), [cutT ab 0][i].length = 64 := fun i h => by
  have h0 : i = 0 := by simp only [List.length_cons, List.length_nil] at h; omega
  subst h0
  exact cutT_len ab 0
theorem ab_join : joinT [cutT ab 0] 2 = ab := by
  unfold joinT
  rw [ab_cut]
  rfl
theorem ab_joins : joinB [cutT ab 0] 2 (sumN ab) = true := by
  unfold joinB
  rw [ab_join]
  simp only [Bool.and_eq_true, decide_eq_true_eq]
  refine ⟨fun i hi => ?_, rfl⟩
  obtain rfl : i = 0 := by simpa using hi
  rfl
/-- a batch's sectors, told in a slice of their own -/
def PagesR (w : World) (s : Nat) (l : Text) (m : Nat) (e : Ending) (w' : World) : Prop := ∃ g c, e = .returned (.tuple #[.slice (some ⟨g, 0, none⟩) m c, .int .i64 0]) ∧ OwnT w.heap.size (.slice (some ⟨g, 0, none⟩) m c) (pagesT s l) w' ∧ m ≤ c ∧ Below w.heap.size w w'
theorem pagesT_len (s : Nat) (l : Text) : (pagesT s l).length = manyC l + 2 := by simp [pagesT, cutP, cutsT_len]
theorem code_pagesR (s : Nat) (l : Text) (A : Option Addr) (c : Nat) (w : World) (h1 : 1 ≤ s) (h2 : s ≤ 4611686018427387904) (h3 : 1 ≤ l.length) (h4 : l.length ≤ 131072) (hc : l.length ≤ c) (hT : Txt w A l) :
    Calls Try.prog 65 #[.int .i64 s, .slice A l.length c] w (PagesR w s l (manyC l + 2)) := by
  refine (code_pages_yes s l A c w h1 h2 h3 h4 hc hT).mono ?_
  rintro e w' ⟨v, rfl, ho, hb⟩
  obtain ⟨g, c', rfl, _, _, hc'⟩ := ho.form (by rw [pagesT_len]; omega)
  rw [pagesT_len] at ho hc'
  exact ⟨g, c', by rw [pagesT_len], ho, hc', hb⟩
end Go.Proofs.Ythgakgjhcadajaa

namespace Go.Proofs.Ythgakgjhcadajaa
open Go.RowKit
set_option maxRecDepth 100000

/-- a text with nought behind it -/
def padT (l : Text) (M : Nat) : Text := l ++ List.replicate M 0
theorem cut_pad (l : Text) (i M : Nat) (hM : 64 ≤ M) (hi : 64 * i ≤ l.length) : cutT l i = ((padT l M).drop (64 * i)).take 64 := by
  unfold cutT padT overP zeros
  rw [List.drop_append_of_le_length hi, List.drop_replicate]
  generalize l.drop (64 * i) = x
  rw [List.take_append, List.take_replicate]
  congr 2
  rw [List.length_take]
  omega
theorem cutP_flat (l : Text) (M : Nat) (hM : 64 ≤ M) : ∀ k, 64 * k ≤ l.length + 63 → (cutP l k).flatten = (padT l M).take (64 * k) := by
  intro k
  induction k with
  | zero => intro _; simp [cutP, cutsT]
  | succ k ih =>
    intro hk
    have e : cutP l (k + 1) = cutP l k ++ [cutT l k] := by unfold cutP; rw [cutsT_next, List.map_append]; rfl
    rw [e, List.flatten_append, ih (by omega), List.flatten_singleton, cut_pad l k M hM (by omega), Nat.mul_succ, List.take_add]
theorem back_text (l : Text) : joinT (cutP l (manyC l)) l.length = l := by
  unfold joinT
  rw [cutP_flat l 64 (Nat.le_refl _) (manyC l) (by unfold manyC; omega), List.take_take, Nat.min_eq_left (by unfold manyC; omega)]
  unfold padT
  rw [List.take_append_of_le_length (Nat.le_refl _), List.take_of_length_le (Nat.le_refl _)]
theorem cutP_len (l : Text) (k : Nat) : (cutP l k).length = k := by simp [cutP, cutsT_len]
theorem cutP_at (l : Text) (k i : Nat) (hi : i < (cutP l k).length) : (cutP l k)[i] = cutT l i := by simp [cutP, cutsT]
theorem back_joins (l : Text) : joinB (cutP l (manyC l)) l.length (sumN l) = true := by
  unfold joinB
  rw [back_text l]
  simp only [Bool.and_eq_true, decide_eq_true_eq]
  exact ⟨fun i hi => by rw [List.getElem?_eq_getElem hi, cutP_at], rfl⟩
theorem headP_blank (s n u : Nat) : decide (headP s n u = zeros) = false := by
  refine decide_eq_false fun e => ?_
  have h : (headP s n u)[4]? = some 72 := by
    rw [headP_eq]
    unfold wrapT headB Crc.four
    rfl
  rw [e] at h
  exact absurd h (by decide)
end Go.Proofs.Ythgakgjhcadajaa
