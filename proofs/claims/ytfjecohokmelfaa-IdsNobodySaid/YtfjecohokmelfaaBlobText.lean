/- A text's bytes and a flag's: the program's, and the document's own. -/
import Derived.Test.YtfjecohokmelfaaTxt2
import Derived.Lib.AppendStr
namespace Go.Proofs.Ytfjecohokmelfaa
open Go.RowKit
set_option maxRecDepth 100000

/-- a string's bytes -/
def strT (s : ByteArray) : Text := s.data.toList
theorem strT_length (s : ByteArray) : (strT s).length = s.size := by
  rw [strT, Array.length_toList]; rfl
theorem strCells_eq (s : ByteArray) : Lib.strCells s = (strT s).map cellOf := by
  rfl
theorem wpList_append_own_str {w : World} {ops : Array Oper} {rest : List Oper} {o : Oper} {a : Act} {Q : Exit → Act → World → Prop} (hgd : o.guard = none) (sl x : Operand)
    (ho : o.op = .call { callee := .builtin .append, args := #[sl, x], argTypes := #[86, 9] })
    (base : Nat) (w0 : World) (v : Value) (m k : Text) (hs : a.eval sl = v) (hown : w.ownsRow base 5 1 v m.length (m.map cellOf)) (s : ByteArray) (hx : a.eval x = .string s)
    (h63 : m.length + s.size ≤ 140737488355328) (hb : Below base w0 w) (hbase : base ≤ w.heap.size) (hk : k = m ++ strT s)
    (h : ∀ v' w', w'.ownsRow base 5 1 v' k.length (k.map cellOf) → Below base w0 w' → wpList Try.prog ops Q rest (a.put o.dst v') w') :
    wpList Try.prog ops Q (o :: rest) a w := by
  obtain ⟨i0, hi, hz0, hz1, hz2⟩ := info_parts u8fact
  refine Lib.wpList_append_own_string (P := Try.prog) (w := w) hgd sl x 86 9 ho base 5 i0 Try.underlying86 Try.underlying9 hi hz0 hz1 hz2 v m.length (m.map cellOf) hs hown s hx (by unfold maxLen; omega) h63 hbase fun v' w' h1 h2 _ => ?_
  subst hk
  rw [strCells_eq] at h1
  exact h v' w' (by rw [List.length_append, strT_length, List.map_append]; exact h1) (hb.grown h2 hbase fun k hk => (hown.lt k hk).1)

/-- new bytes -/
def MadeT (w : World) (l : Text) (e : Ending) (w' : World) : Prop :=
  ∃ g c, e = .returned (.slice (some ⟨g, 0, none⟩) l.length c) ∧ w'.ownsRow w.heap.size 5 1 (.slice (some ⟨g, 0, none⟩) l.length c) l.length (l.map cellOf) ∧ Below w.heap.size w w'
end Go.Proofs.Ytfjecohokmelfaa
