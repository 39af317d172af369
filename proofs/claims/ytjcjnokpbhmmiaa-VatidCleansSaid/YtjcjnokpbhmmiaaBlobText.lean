/- A text's bytes and a flag's: the program's, and the document's own. -/
import Derived.Test.YtjcjnokpbhmmiaaBlobRef
import Derived.Lib.AppendStr
namespace Go.Proofs.Ytjcjnokpbhmmiaa
open Go.RowKit
set_option maxRecDepth 100000

/-- a string's bytes -/
def strT (s : ByteArray) : Text := s.data.toList
theorem strT_length (s : ByteArray) : (strT s).length = s.size := by
  rw [strT, Array.length_toList]; rfl
theorem strCells_eq (s : ByteArray) : Lib.strCells s = (strT s).map cellOf := by
  rfl
/-- a text's bytes, behind how many there are -/
def textT (s : ByteArray) : Text := Blob.numT 0 s.size ++ strT s
def flagT (b : Bool) : Text := if b then [1] else [0]

theorem wpList_append_own_str {w : World} {ops : Array Oper} {rest : List Oper} {o : Oper} {a : Act} {Q : Exit → Act → World → Prop} (hgd : o.guard = none) (sl x : Operand)
    (ho : o.op = .call { callee := .builtin .append, args := #[sl, x], argTypes := #[22, 9] })
    (base : Nat) (w0 : World) (v : Value) (m k : Text) (hs : a.eval sl = v) (hown : w.ownsRow base 5 1 v m.length (m.map cellOf)) (s : ByteArray) (hx : a.eval x = .string s)
    (h63 : m.length + s.size ≤ 140737488355328) (hb : Below base w0 w) (hbase : base ≤ w.heap.size) (hk : k = m ++ strT s)
    (h : ∀ v' w', w'.ownsRow base 5 1 v' k.length (k.map cellOf) → Below base w0 w' → wpList Try.prog ops Q rest (a.put o.dst v') w') :
    wpList Try.prog ops Q (o :: rest) a w := by
  obtain ⟨i0, hi, hz0, hz1, hz2⟩ := info_parts u8fact
  refine Lib.wpList_append_own_string (P := Try.prog) (w := w) hgd sl x 22 9 ho base 5 i0 Try.underlying22 Try.underlying9 hi hz0 hz1 hz2 v m.length (m.map cellOf) hs hown s hx (by unfold maxLen; omega) h63 hbase fun v' w' h1 h2 _ => ?_
  subst hk
  rw [strCells_eq] at h1
  exact h v' w' (by rw [List.length_append, strT_length, List.map_append]; exact h1) (hb.grown h2 hbase fun k hk => (hown.lt k hk).1)

theorem num_len (h m : Nat) (hm : m < 9223372036854775808) : (Blob.numT h m).length ≤ 9 := by
  rw [Blob.numT_length]; have := Blob.nb_8 m hm; omega

set_option maxHeartbeats 1000000 in
theorem code_text (s : ByteArray) (w : World) (hs : s.size ≤ 65536) :
    Calls Try.prog 67 #[.string s] w (MadeB w (textT s)) := by
  have hsz : ((s.size : Nat) : Int) ≤ 65536 := by omega
  have hn : (Blob.numT 0 s.size).length ≤ 9 := num_len 0 s.size (by omega)
  have HC : Hid (Calls Try.prog 66 #[.int .i64 s.size] w (MadeB w (Blob.numT 0 s.size))) := Lib.hid (code_num_pos s.size w (by omega))
  obtain ⟨J, hJ⟩ : ∃ J, J = Blob.numT 0 s.size := ⟨_, rfl⟩
  rw [← hJ] at HC hn
  have HT : Hid (textT s = J ++ strT s) := Lib.hid (by rw [hJ]; rfl)
  have HP : Hid (0 < (textT s).length) := Lib.hid (by unfold textT; rw [List.length_append, Blob.numT_length]; omega)
  clear hJ
  go_enter Try.func67, Try.ntmps67
  go_wp2_with (first
    | (go_at_call 66; refine HC.out.mono ?_; rintro e w1 ⟨g1, c1, rfl, ho1, hb1⟩; have HO1 := Lib.hid ho1; have HB1 := Lib.hid hb1; clear ho1 hb1)
    | (refine wpList_append_own_str (o := ⟨some 17, _, _, _, _, _⟩) rfl _ _ rfl w.heap.size w _ J (textT s) rfl HO1.out s rfl ?o1 HB1.out HB1.out.size HT.out ?_; (case o1 => omega); intro v2 w2 hown2 hb2; have HO2 := Lib.hid hown2; have HB2 := Lib.hid hb2; clear hown2 hb2))
  obtain ⟨g, c, hv, _, _⟩ := HO2.out.form HP.out
  subst hv
  go_ret2
  exact ⟨g, c, rfl, HO2.out, HB2.out⟩
set_option maxHeartbeats 400000 in
theorem code_text_no (s : ByteArray) (w : World) (hs : 65536 < s.size) (hm : s.size ≤ 9223372036854775807) :
    Calls Try.prog 67 #[.string s] w fun e w' => e = .returned (.tuple #[.slice none 0 0, .bool false]) ∧ w = w' := by
  have hsz : 65536 < ((s.size : Nat) : Int) := by omega
  go_enter Try.func67, Try.ntmps67
  go_wp2
  go_ret2
  exact ⟨rfl, rfl⟩

theorem code_flag (b : Bool) (w : World) : Calls Try.prog 74 #[.bool b] w (MadeB w (flagT b)) := by
  cases b
  all_goals
    go_enter Try.func74, Try.ntmps74
    go_wp2
    go_ret2
    exact ⟨_, 1, rfl, one_own w rfl, (Below.refl _ _).alloc (Nat.le_refl _) _⟩
/-- new bytes -/
def MadeT (w : World) (l : Text) (e : Ending) (w' : World) : Prop :=
  ∃ g c, e = .returned (.slice (some ⟨g, 0, none⟩) l.length c) ∧ w'.ownsRow w.heap.size 5 1 (.slice (some ⟨g, 0, none⟩) l.length c) l.length (l.map cellOf) ∧ Below w.heap.size w w'
end Go.Proofs.Ytjcjnokpbhmmiaa
