/- A slice of bytes that holds a text, wherever it lies; nil is let in. What is appended to a slice of the call's own, with what lay there before the call. A text's bytes and a flag's: the program's, and the document's own. -/
import Derived.Test.YtjanhgekocpobaaRows
import Derived.WalkKit
import Derived.WalkSpells
import Derived.Below
import Derived.Lib.Hide
import Derived.IntWalk
import Derived.OwnWalk
import Derived.Laws.OwnMore
import Derived.Laws.IdiomStrings
import Derived.Lib.BufferRead
import Derived.Maps.AppendAt
import Derived.Deep.AppendLies
import Derived.Deep.Draws
import Derived.Lib.AppendStr
namespace Go.Proofs.Ytjanhgekocpobaa
open Go.RowKit
set_option maxRecDepth 100000

abbrev Text := List UInt8

theorem ret_int {k : IntKind} {a b : Int} (h : a = b) : Ending.returned (.int k a) = .returned (.int k b) := by rw [h]
theorem ret_bool {a b : Bool} (h : a = b) : Ending.returned (.bool a) = .returned (.bool b) := by rw [h]

theorem u8fact : (Try.prog.info? 5).map (fun i => (i.zero, i.size, i.bytes)) = some (some (.int .u8 0), 1, 1) := by kernel_rfl

theorem add_block (a : Addr) (n : Nat) : (a.add n).block = a.block := by
  unfold Addr.add
  by_cases h : n = 0
  · rw [if_pos h]
  · rw [if_neg h]
theorem add_twice (a : Addr) (i j : Nat) : (a.add i).add j = a.add (i + j) := by
  unfold Addr.add
  by_cases hi : i = 0
  · subst hi; simp
  · by_cases hj : j = 0
    · subst hj; simp
    · simp [hi, hj, Nat.add_assoc]

/-- a byte, as a cell has it -/
def cellOf (c : UInt8) : Value := .int .u8 (c.toNat : Int)
/-- at that address the bytes of a text lie, one behind the other; of no bytes nothing is asked -/
def Txt (w : World) (A : Option Addr) (l : Text) : Prop :=
  l ≠ [] → ∃ a, A = some a ∧ a.block < w.heap.size ∧ ∀ i (h : i < l.length), w.cell? (a.add i) = some (.int .u8 (l[i].toNat : Int))

section
variable {w w' : World} {A : Option Addr} {l : Text}
theorem Txt.none_ : Txt w A [] := fun h => absurd rfl h
theorem Txt.at_ (h : Txt w A l) {k : Nat} (hk : k < l.length) : ∃ a, A = some a ∧ a.block < w.heap.size ∧ w.cell? (a.add k) = some (.int .u8 (l[k].toNat : Int)) := by
  obtain ⟨a, e, hb, hc⟩ := h (by intro h0; subst h0; simp at hk)
  exact ⟨a, e, hb, hc k hk⟩
theorem Txt.keep (h : Txt w A l) (hs : w.heap.size ≤ w'.heap.size) (hk : ∀ p : Addr, p.block < w.heap.size → w'.cell? p = w.cell? p) : Txt w' A l := fun hn => by
  obtain ⟨a, e, hb, hc⟩ := h hn
  exact ⟨a, e, by omega, fun i hi => (hk _ (by rw [add_block]; exact hb)).trans (hc i hi)⟩
theorem Txt.below (h : Txt w A l) (hb : Below w.heap.size w w') : Txt w' A l := h.keep hb.size fun _ hp => hb.cell hp
theorem Txt.alloc (h : Txt w A l) (o : Obj) : Txt (w.alloc o) A l := h.below ((Below.refl _ _).alloc (Nat.le_refl _) o)
theorem Txt.drop {a : Addr} (h : Txt w (some a) l) (k : Nat) : Txt w (some (a.add k)) (l.drop k) := fun hn => by
  have hk : k < l.length := by
    rcases Nat.lt_or_ge k l.length with h0 | h0
    · exact h0
    · exact absurd (List.drop_eq_nil_of_le h0) hn
  obtain ⟨a', e, hb, hc⟩ := h (by intro h0; subst h0; simp at hk)
  injection e with e
  subst e
  refine ⟨_, rfl, by rw [add_block]; exact hb, fun i hi => ?_⟩
  rw [add_twice]
  have hi' : k + i < l.length := by rw [List.length_drop] at hi; omega
  rw [hc (k + i) hi', List.getElem_drop]
theorem Txt.take (h : Txt w A l) (k : Nat) : Txt w A (l.take k) := fun hn => by
  obtain ⟨a, e, hb, hc⟩ := h (by intro h0; subst h0; simp at hn)
  refine ⟨a, e, hb, fun i hi => ?_⟩
  rw [hc i (by simp at hi; omega), List.getElem_take]
theorem Txt.of_own {base : Nat} {n c : Nat} (h : w.ownsRow base 5 1 (.slice A n c) n (l.map cellOf)) : Txt w A l := fun hn => by
  have hl : n = l.length := by have := h.1; simp at this; omega
  have hp : 0 < n := by
    have := List.length_pos_iff.2 hn
    omega
  obtain ⟨g, cap, hv, _, hlt⟩ := h.form hp
  injection hv with hA
  subst hA
  refine ⟨_, rfl, hlt, fun i hi => ?_⟩
  exact h.cells (g := g) rfl i _ (by rw [List.getElem?_map, List.getElem?_eq_getElem hi]; rfl)
/-- the bytes as cells, for 'append' -/
theorem Txt.news {a : Addr} (h : Txt w (some a) l) : ∀ j u, (l.map cellOf)[j]? = some u → w.cell? (a.add j) = some u := by
  intro j u hu
  have hj : j < l.length := by
    have := (List.getElem?_eq_some_iff.1 hu).1
    simpa using this
  obtain ⟨a', e, _, hc⟩ := h.at_ hj
  injection e with e
  subst e
  rw [hc]
  rw [List.getElem?_map, List.getElem?_eq_getElem hj] at hu
  exact hu
end
theorem cells_one (l : Text) : ∀ u ∈ l.map cellOf, u.oneCell' = true := by
  intro u hu
  obtain ⟨c, _, rfl⟩ := List.mem_map.1 hu
  rfl

/-- what is appended to a slice of the call's own, be the source nil or not -/
theorem append_run (w : World) (base : Nat) (v : Value) (n : Nat) (xs : List Value) (hown : w.ownsRow base 5 1 v n xs) (A : Option Addr) (c : Nat) (l : Text) (hT : Txt w A l) (hA : A = none → l = [])
    (h63 : n + l.length ≤ 140737488355328) (hbase : base ≤ w.heap.size) :
    ∃ v' w', (Builtin.append_ #[86, 86] 86 #[v, .slice A l.length c]).run Try.prog w = .ok v' w' ∧ w'.ownsRow base 5 1 v' (n + l.length) (xs ++ l.map cellOf) ∧ w.grownBy w' v.ownBlock ∧
      (v'.ownBlock = v.ownBlock ∨ v'.ownBlock = some w.heap.size) := by
  obtain ⟨i0, hi, hz0, hz1, hz2⟩ := info_parts u8fact
  rcases A with _ | a
  · have hl := hA rfl
    subst hl
    refine ⟨v, w, ?_, by simpa using hown, World.grownBy.refl w _, .inl rfl⟩
    rcases hown.2 with ⟨rfl, rfl⟩ | ⟨g, cap, cur, rfl, _, _, hnc, _⟩
    · simp [Builtin.append_, run_underlying Try.underlying86, sizeOf, typeInfo, hi, Builtin.lenOf, Builtin.firstCells]
    · simp [Builtin.append_, run_underlying Try.underlying86, sizeOf, typeInfo, hi, Builtin.lenOf, Builtin.firstCells, hnc, storeCells]
  · obtain ⟨v', w', h1, h2, h3, _, h5⟩ := run_append_own_at (P := Try.prog) w base 86 86 5 i0 (.int .u8 0) 1 1 Try.underlying86 hi hz0 hz1 hz2 rfl (by decide) v n xs hown a l.length c (l.map cellOf) (by simp)
      hT.news (cells_one l) (by unfold maxLen; omega) (by omega) hbase
    exact ⟨v', w', h1, h2, h3, h5⟩
theorem wpList_append_text {w : World} {ops : Array Oper} {rest : List Oper} {o : Oper} {a : Act} {Q : Exit → Act → World → Prop} (hgd : o.guard = none) (s x : Operand)
    (ho : o.op = .call { callee := .builtin .append, args := #[s, x], argTypes := #[86, 86] }) (hty : o.type = 86)
    (base : Nat) (v : Value) (n : Nat) (xs : List Value) (hs : a.eval s = v) (hown : w.ownsRow base 5 1 v n xs) (A : Option Addr) (c : Nat) (l : Text) (hx : a.eval x = .slice A l.length c)
    (hT : Txt w A l) (hA : A = none → l = []) (h63 : n + l.length ≤ 140737488355328) (hbase : base ≤ w.heap.size)
    (h : ∀ v' w', w'.ownsRow base 5 1 v' (n + l.length) (xs ++ l.map cellOf) → w.grownBy w' v.ownBlock → (v'.ownBlock = v.ownBlock ∨ v'.ownBlock = some w.heap.size) → wpList Try.prog ops Q rest (a.put o.dst v') w') :
    wpList Try.prog ops Q (o :: rest) a w := by
  refine wpList_plain hgd fun K hK => ?_
  obtain ⟨v', w', hr, h2, h3, h5⟩ := append_run w base v n xs hown A c l hT hA h63 hbase
  unfold Oper.wp execOp
  simp only [ho, hty, resolve, invoke, builtin, Sem.run_bind, Sem.run_pure, Result.andThen_ok, List.map_toArray, List.map_cons, List.map_nil, hs, hx, hr]
  exact hK _ _ (h v' w' h2 h3 h5)

/-- the text of bytes, as a string -/
theorem text_run (w : World) (A : Option Addr) (c : Nat) (l : Text) (hT : Txt w A l) (hA : A = none → l = []) :
    (convert 86 9 (.slice A l.length c)).run Try.prog w = .ok (.string ⟨l.toArray⟩) w := by
  rcases A with _ | a
  · have := hA rfl
    subst this
    exact Lib.run_convert_nil_bytes (P := Try.prog) w 86 9 5 c Try.underlying86 Try.underlying5 Try.underlying9
  · refine run_convert_bytes_back w 86 9 5 a c l Try.underlying86 Try.underlying5 Try.underlying9 fun j hj => ?_
    obtain ⟨a', e, _, hc⟩ := hT.at_ hj
    injection e with e
    subst e
    exact hc
end Go.Proofs.Ytjanhgekocpobaa

namespace Go.Proofs.Ytjanhgekocpobaa
open Go.RowKit
set_option maxRecDepth 100000

theorem wpList_append_own_text {w : World} {ops : Array Oper} {rest : List Oper} {o : Oper} {a : Act} {Q : Exit → Act → World → Prop} (hgd : o.guard = none) (s x : Operand)
    (ho : o.op = .call { callee := .builtin .append, args := #[s, x], argTypes := #[86, 86] }) (hty : o.type = 86)
    (base : Nat) (w0 : World) (v : Value) (m n k : Text) (hs : a.eval s = v) (hown : w.ownsRow base 5 1 v m.length (m.map cellOf)) (A : Option Addr) (c : Nat) (hx : a.eval x = .slice A n.length c)
    (hT : Txt w A n) (hA : A = none → n = []) (h63 : m.length + n.length ≤ 140737488355328) (hb : Below base w0 w) (hbase : base ≤ w.heap.size) (hk : k = m ++ n)
    (h : ∀ v' w', w'.ownsRow base 5 1 v' k.length (k.map cellOf) → Below base w0 w' → (v.ownBlock ≠ none → v'.ownBlock ≠ none) → wpList Try.prog ops Q rest (a.put o.dst v') w') :
    wpList Try.prog ops Q (o :: rest) a w := by
  refine wpList_append_text hgd s x ho hty base v m.length (m.map cellOf) hs hown A c n hx hT hA h63 hbase fun v' w' h1 h2 h3 => ?_
  subst hk
  refine h v' w' (by simpa using h1) (hb.grown h2 hbase fun k hk => (hown.lt k hk).1) fun hv => ?_
  rcases h3 with h3 | h3
  · rw [h3]; exact hv
  · rw [h3]; simp
/-- what the call owns it owns still, behind a call that turned nothing -/
theorem own_below {w w' : World} {base : Nat} {v : Value} {n : Nat} {xs : List Value} (h : w.ownsRow base 5 1 v n xs) (hb : Below w.heap.size w w') : w'.ownsRow base 5 1 v n xs :=
  h.kept (row := none) ⟨hb.os, hb.tape, hb.output, hb.size, fun k hk _ => hb.block k hk⟩ (by
    rcases h.2 with ⟨rfl, _⟩ | ⟨g, c, cur, rfl, _⟩
    · exact .inl rfl
    · exact .inr (by simp [Value.ownBlock]))
/-- an empty slice of the call's own -/
theorem empty_own (w : World) : (w.alloc (.cells #[] 5)).ownsRow w.heap.size 5 1 (.slice (some ⟨w.heap.size, 0, none⟩) 0 0) ([] : Text).length (([] : Text).map cellOf) :=
  World.ownsRow_lit w #[] 0 (Nat.le_refl _) (by unfold maxLen; omega) rfl
/-- the form of a slice that has a block -/
theorem own_form {w : World} {B : Nat} {v : Value} {l : Text} (h : w.ownsRow B 5 1 v l.length (l.map cellOf)) (hv : v.ownBlock ≠ none) :
    ∃ g c, v = .slice (some ⟨g, 0, none⟩) l.length c ∧ B ≤ g := by
  rcases h.2 with ⟨rfl, _⟩ | ⟨g, c, cur, rfl, hB, _⟩
  · exact absurd rfl hv
  · exact ⟨g, c, rfl, hB⟩
theorem own_txt {w : World} {B : Nat} {v : Value} {l : Text} (h : w.ownsRow B 5 1 v l.length (l.map cellOf)) :
    ∃ A c, v = .slice A l.length c ∧ Txt w A l ∧ (A = none → l = []) := by
  rcases h.2 with ⟨rfl, h0⟩ | ⟨g, c, cur, rfl, _⟩
  · have : l = [] := List.eq_nil_of_length_eq_zero h0
    subst this
    exact ⟨none, 0, rfl, Txt.none_, fun _ => rfl⟩
  · exact ⟨_, c, rfl, .of_own h, by simp⟩
end Go.Proofs.Ytjanhgekocpobaa

namespace Go.Proofs.Ytjanhgekocpobaa
open Go.RowKit
set_option maxRecDepth 100000

/-- a string's bytes -/
def strT (s : ByteArray) : Text := s.data.toList
theorem strT_length (s : ByteArray) : (strT s).length = s.size := by
  rw [strT, Array.length_toList]; rfl
theorem strCells_eq (s : ByteArray) : Lib.strCells s = (strT s).map cellOf := by
  rfl
theorem wpList_append_own_str {w : World} {ops : Array Oper} {rest : List Oper} {o : Oper} {a : Act} {Q : Exit → Act → World → Prop} (hgd : o.guard = none) (sl x : Operand)
    (ho : o.op = .call { callee := .builtin .append, args := #[sl, x], argTypes := #[86, 9] })
    (base : Nat) (w0 : World) (v : Value) (m k : Text) (hs : a.eval sl = v) (hown : w.ownsRow base 5 1 v m.length (m.map cellOf)) (s : ByteArray) (hx : a.eval x = .string s)
    (h63 : m.length + s.size ≤ 140737488355328) (hb : Below base w0 w) (hbase : base ≤ w.heap.size) (hk : k = m ++ strT s)
    (h : ∀ v' w', w'.ownsRow base 5 1 v' k.length (k.map cellOf) → Below base w0 w' → wpList Try.prog ops Q rest (a.put o.dst v') w') :
    wpList Try.prog ops Q (o :: rest) a w := by
  obtain ⟨i0, hi, hz0, hz1, hz2⟩ := info_parts u8fact
  refine Lib.wpList_append_own_string (P := Try.prog) (w := w) hgd sl x 86 9 ho base 5 i0 Try.underlying86 Try.underlying9 hi hz0 hz1 hz2 v m.length (m.map cellOf) hs hown s hx (by unfold maxLen; omega) h63 hbase fun v' w' h1 h2 _ => ?_
  subst hk
  rw [strCells_eq] at h1
  exact h v' w' (by rw [List.length_append, strT_length, List.map_append]; exact h1) (hb.grown h2 hbase fun k hk => (hown.lt k hk).1)

/-- new bytes -/
def MadeT (w : World) (l : Text) (e : Ending) (w' : World) : Prop :=
  ∃ g c, e = .returned (.slice (some ⟨g, 0, none⟩) l.length c) ∧ w'.ownsRow w.heap.size 5 1 (.slice (some ⟨g, 0, none⟩) l.length c) l.length (l.map cellOf) ∧ Below w.heap.size w w'
end Go.Proofs.Ytjanhgekocpobaa
