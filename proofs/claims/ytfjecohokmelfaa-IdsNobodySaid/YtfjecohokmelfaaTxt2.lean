/- What is appended to a slice of the call's own, with what lay there before the call. -/
import Derived.Test.YtfjecohokmelfaaTxt
namespace Go.Proofs.Ytfjecohokmelfaa
open Go.RowKit
set_option maxRecDepth 100000

theorem wpList_append_own_text {w : World} {ops : Array Oper} {rest : List Oper} {o : Oper} {a : Act} {Q : Exit → Act → World → Prop} (hgd : o.guard = none) (s x : Operand)
    (ho : o.op = .call { callee := .builtin .append, args := #[s, x], argTypes := #[86, 86] }) (hty : o.type = 86)
    (base : Nat) (w0 : World) (v : Value) (m n k : Text) (hs : a.eval s = v) (hown : w.ownsRow base 5 1 v m.length (m.map cellOf)) (A : Option Addr) (c : Nat) (hx : a.eval x = .slice A n.length c)
    (hT : Txt w A n) (hA : A = none → n = []) (h63 : m.length + n.length ≤ 140737488355328) (hb : Below base w0 w) (hbase : base ≤ w.heap.size) (hk : k = m ++ n)
    (h : ∀ v' w', w'.ownsRow base 5 1 v' k.length (k.map cellOf) → Below base w0 w' → (v.ownBlock ≠ none → v'.ownBlock ≠ none) → wpList Try.prog ops Q rest (a.put o.dst v') w') :
    wpList Try.prog ops Q (o :: rest) a w := by
  refine wpList_append_text hgd s x ho hty base v m.length (m.map cellOf) hs hown A c n hx hT hA h63 hbase fun v' w' h1 h2 h3 => ?_
  subst hk
  refine h v' w' (by simpa using h1) (hb.grown h2 hbase fun k hk => (hown.lt k hk).1) fun hv => ?_
  rcases h3 with h3 | h3
  · rw [h3]; exact hv
  · rw [h3]; simp
/-- what the call owns it owns still, behind a call that turned nothing -/
theorem own_below {w w' : World} {base : Nat} {v : Value} {n : Nat} {xs : List Value} (h : w.ownsRow base 5 1 v n xs) (hb : Below w.heap.size w w') : w'.ownsRow base 5 1 v n xs :=
  h.kept (row := none) ⟨hb.os, hb.tape, hb.output, hb.size, fun k hk _ => hb.block k hk⟩ (by
    rcases h.2 with ⟨rfl, _⟩ | ⟨g, c, cur, rfl, _⟩
    · exact .inl rfl
    · exact .inr (by simp [Value.ownBlock]))
/-- an empty slice of the call's own -/
theorem empty_own (w : World) : (w.alloc (.cells #[] 5)).ownsRow w.heap.size 5 1 (.slice (some ⟨w.heap.size, 0, none⟩) 0 0) ([] : Text).length (([] : Text).map cellOf) :=
  World.ownsRow_lit w #[] 0 (Nat.le_refl _) (by unfold maxLen; omega) rfl
/-- the form of a slice that has a block -/
theorem own_form {w : World} {B : Nat} {v : Value} {l : Text} (h : w.ownsRow B 5 1 v l.length (l.map cellOf)) (hv : v.ownBlock ≠ none) :
    ∃ g c, v = .slice (some ⟨g, 0, none⟩) l.length c ∧ B ≤ g := by
  rcases h.2 with ⟨rfl, _⟩ | ⟨g, c, cur, rfl, hB, _⟩
  · exact absurd rfl hv
  · exact ⟨g, c, rfl, hB⟩
theorem own_txt {w : World} {B : Nat} {v : Value} {l : Text} (h : w.ownsRow B 5 1 v l.length (l.map cellOf)) :
    ∃ A c, v = .slice A l.length c ∧ Txt w A l ∧ (A = none → l = []) := by
  rcases h.2 with ⟨rfl, h0⟩ | ⟨g, c, cur, rfl, _⟩
  · have : l = [] := List.eq_nil_of_length_eq_zero h0
    subst this
    exact ⟨none, 0, rfl, Txt.none_, fun _ => rfl⟩
  · exact ⟨_, c, rfl, .of_own h, by simp⟩
end Go.Proofs.Ytfjecohokmelfaa
