/- What is appended to a slice of the call's own, with what lay there before the call. Bytes in a block of the call's own. -/
import Derived.Test.YthgakgjhcadajaaJ1
import Derived.Test.YthgakgjhcadajaaJ2
namespace Go.Proofs.Ythgakgjhcadajaa
open Go.RowKit
set_option maxRecDepth 100000

theorem wpList_append_own_text {w : World} {ops : Array Oper} {rest : List Oper} {o : Oper} {a : Act} {Q : Exit → Act → World → Prop} (hgd : o.guard = none) (s x : Operand)
    (ho : o.op = .call { callee := .builtin .append, args := #[s, x], argTypes := #[51, 51] }) (hty : o.type = 51)
    (base : Nat) (w0 : World) (v : Value) (m n k : Text) (hs : a.eval s = v) (hown : w.ownsRow base 5 1 v m.length (m.map cellOf)) (A : Option Addr) (c : Nat) (hx : a.eval x = .slice A n.length c)
    (hT : Txt w A n) (hA : A = none → n = []) (h63 : m.length + n.length ≤ 140737488355328) (hb : Below base w0 w) (hbase : base ≤ w.heap.size) (hk : k = m ++ n)
    (h : ∀ v' w', w'.ownsRow base 5 1 v' k.length (k.map cellOf) → Below base w0 w' → (v.ownBlock ≠ none → v'.ownBlock ≠ none) → wpList Try.prog ops Q rest (a.put o.dst v') w') :
    wpList Try.prog ops Q (o :: rest) a w := by
  refine wpList_append_text hgd s x ho hty base v m.length (m.map cellOf) hs hown A c n hx hT hA h63 hbase fun v' w' h1 h2 h3 => ?_
  subst hk
  refine h v' w' (by simpa using h1) (hb.grown h2 hbase fun k hk => (hown.lt k hk).1) fun hv => ?_
  rcases h3 with h3 | h3
  · rw [h3]; exact hv
  · rw [h3]; simp
/-- what the call owns it owns still, behind a call that turned nothing -/
theorem own_below {w w' : World} {base : Nat} {v : Value} {n : Nat} {xs : List Value} (h : w.ownsRow base 5 1 v n xs) (hb : Below w.heap.size w w') : w'.ownsRow base 5 1 v n xs :=
  h.kept (row := none) ⟨hb.os, hb.tape, hb.output, hb.size, fun k hk _ => hb.block k hk⟩ (by
    rcases h.2 with ⟨rfl, _⟩ | ⟨g, c, cur, rfl, _⟩
    · exact .inl rfl
    · exact .inr (by simp [Value.ownBlock]))
/-- an empty slice of the call's own -/
theorem empty_own (w : World) : (w.alloc (.cells #[] 5)).ownsRow w.heap.size 5 1 (.slice (some ⟨w.heap.size, 0, none⟩) 0 0) ([] : Text).length (([] : Text).map cellOf) :=
  World.ownsRow_lit w #[] 0 (Nat.le_refl _) (by unfold maxLen; omega) rfl
/-- the form of a slice that has a block -/
theorem own_form {w : World} {B : Nat} {v : Value} {l : Text} (h : w.ownsRow B 5 1 v l.length (l.map cellOf)) (hv : v.ownBlock ≠ none) :
    ∃ g c, v = .slice (some ⟨g, 0, none⟩) l.length c ∧ B ≤ g := by
  rcases h.2 with ⟨rfl, _⟩ | ⟨g, c, cur, rfl, hB, _⟩
  · exact absurd rfl hv
  · exact ⟨g, c, rfl, hB⟩
theorem own_txt {w : World} {B : Nat} {v : Value} {l : Text} (h : w.ownsRow B 5 1 v l.length (l.map cellOf)) :
    ∃ A c, v = .slice A l.length c ∧ Txt w A l ∧ (A = none → l = []) := by
  rcases h.2 with ⟨rfl, h0⟩ | ⟨g, c, cur, rfl, _⟩
  · have : l = [] := List.eq_nil_of_length_eq_zero h0
    subst this
    exact ⟨none, 0, rfl, Txt.none_, fun _ => rfl⟩
  · exact ⟨_, c, rfl, .of_own h, by simp⟩
end Go.Proofs.Ythgakgjhcadajaa

namespace Go.Proofs.Ythgakgjhcadajaa
open Go.RowKit
set_option maxRecDepth 100000

theorem own_more {w : World} {B : Nat} {v : Value} {l : Text} (h : w.ownsRow B 5 1 v l.length (l.map cellOf)) (hl : 0 < l.length) :
    ∃ g c, v = .slice (some ⟨g, 0, none⟩) l.length c ∧ l.length ≤ c ∧ c ≤ maxLen ∧ Txt w (some ⟨g, 0, none⟩) l ∧ B ≤ g ∧ g < w.heap.size := by
  rcases h.2 with ⟨rfl, h0⟩ | ⟨g, c, cur, rfl, hB, hh, hc, hm, _⟩
  · omega
  · exact ⟨g, c, rfl, hc, hm, .of_own h, hB, heapLt hh⟩
theorem slice_of_own {w : World} {B n : Nat} {v : Value} {xs : List Value} (h : w.ownsRow B 5 1 v n xs) : ∃ A k c, v = .slice A k c := by
  rcases h.2 with ⟨rfl, _⟩ | ⟨g, c, cur, rfl, _⟩
  · exact ⟨_, _, _, rfl⟩
  · exact ⟨_, _, _, rfl⟩
/-- a slice of a text's bytes in a block of its own -/
def ToldF (w : World) (T : Text) (e : Ending) (w' : World) : Prop := ∃ g c, e = .returned (.slice (some ⟨g, 0, none⟩) T.length c) ∧ T.length ≤ c ∧ c ≤ maxLen ∧ Txt w' (some ⟨g, 0, none⟩) T ∧ Below w.heap.size w w'
theorem text_run_n (w : World) (A : Option Addr) (c n : Nat) (l : Text) (hn : l.length = n) (hT : Txt w A l) (hA : A = none → l = []) : (convert 51 9 (.slice A n c)).run Try.prog w = .ok (.string ⟨l.toArray⟩) w := by
  subst hn
  exact text_run w A c l hT hA
end Go.Proofs.Ythgakgjhcadajaa
