/- A slice of bytes that holds a text, wherever it lies; nil is let in. -/
import Derived.Test.YtfjecohokmelfaaRows
import Derived.WalkKit
import Derived.WalkSpells
import Derived.Below
import Derived.Lib.Hide
import Derived.IntWalk
import Derived.OwnWalk
import Derived.Laws.OwnMore
import Derived.Laws.IdiomStrings
import Derived.Lib.BufferRead
import Derived.Maps.AppendAt
import Derived.Deep.AppendLies
import Derived.Deep.Draws
namespace Go.Proofs.Ytfjecohokmelfaa
open Go.RowKit
set_option maxRecDepth 100000

abbrev Text := List UInt8

theorem ret_int {k : IntKind} {a b : Int} (h : a = b) : Ending.returned (.int k a) = .returned (.int k b) := by rw [h]
theorem ret_bool {a b : Bool} (h : a = b) : Ending.returned (.bool a) = .returned (.bool b) := by rw [h]

theorem u8fact : (Try.prog.info? 5).map (fun i => (i.zero, i.size, i.bytes)) = some (some (.int .u8 0), 1, 1) := by kernel_rfl

theorem add_block (a : Addr) (n : Nat) : (a.add n).block = a.block := by
  unfold Addr.add
  by_cases h : n = 0
  · rw [if_pos h]
  · rw [if_neg h]
theorem add_twice (a : Addr) (i j : Nat) : (a.add i).add j = a.add (i + j) := by
  unfold Addr.add
  by_cases hi : i = 0
  · subst hi; simp
  · by_cases hj : j = 0
    · subst hj; simp
    · simp [hi, hj, Nat.add_assoc]

/-- a byte, as a cell has it -/
def cellOf (c : UInt8) : Value := .int .u8 (c.toNat : Int)
/-- at that address the bytes of a text lie, one behind the other; of no bytes nothing is asked -/
def Txt (w : World) (A : Option Addr) (l : Text) : Prop :=
  l ≠ [] → ∃ a, A = some a ∧ a.block < w.heap.size ∧ ∀ i (h : i < l.length), w.cell? (a.add i) = some (.int .u8 (l[i].toNat : Int))

section
variable {w w' : World} {A : Option Addr} {l : Text}
theorem Txt.none_ : Txt w A [] := fun h => absurd rfl h
theorem Txt.at_ (h : Txt w A l) {k : Nat} (hk : k < l.length) : ∃ a, A = some a ∧ a.block < w.heap.size ∧ w.cell? (a.add k) = some (.int .u8 (l[k].toNat : Int)) := by
  obtain ⟨a, e, hb, hc⟩ := h (by intro h0; subst h0; simp at hk)
  exact ⟨a, e, hb, hc k hk⟩
theorem Txt.keep (h : Txt w A l) (hs : w.heap.size ≤ w'.heap.size) (hk : ∀ p : Addr, p.block < w.heap.size → w'.cell? p = w.cell? p) : Txt w' A l := fun hn => by
  obtain ⟨a, e, hb, hc⟩ := h hn
  exact ⟨a, e, by omega, fun i hi => (hk _ (by rw [add_block]; exact hb)).trans (hc i hi)⟩
theorem Txt.below (h : Txt w A l) (hb : Below w.heap.size w w') : Txt w' A l := h.keep hb.size fun _ hp => hb.cell hp
theorem Txt.alloc (h : Txt w A l) (o : Obj) : Txt (w.alloc o) A l := h.below ((Below.refl _ _).alloc (Nat.le_refl _) o)
theorem Txt.drop {a : Addr} (h : Txt w (some a) l) (k : Nat) : Txt w (some (a.add k)) (l.drop k) := fun hn => by
  have hk : k < l.length := by
    rcases Nat.lt_or_ge k l.length with h0 | h0
    · exact h0
    · exact absurd (List.drop_eq_nil_of_le h0) hn
  obtain ⟨a', e, hb, hc⟩ := h (by intro h0; subst h0; simp at hk)
  injection e with e
  subst e
  refine ⟨_, rfl, by rw [add_block]; exact hb, fun i hi => ?_⟩
  rw [add_twice]
  have hi' : k + i < l.length := by rw [List.length_drop] at hi; omega
  rw [hc (k + i) hi', List.getElem_drop]
theorem Txt.take (h : Txt w A l) (k : Nat) : Txt w A (l.take k) := fun hn => by
  obtain ⟨a, e, hb, hc⟩ := h (by intro h0; subst h0; simp at hn)
  refine ⟨a, e, hb, fun i hi => ?_⟩
  rw [hc i (by simp at hi; omega), List.getElem_take]
theorem Txt.of_own {base : Nat} {n c : Nat} (h : w.ownsRow base 5 1 (.slice A n c) n (l.map cellOf)) : Txt w A l := fun hn => by
  have hl : n = l.length := by have := h.1; simp at this; omega
  have hp : 0 < n := by
    have := List.length_pos_iff.2 hn
    omega
  obtain ⟨g, cap, hv, _, hlt⟩ := h.form hp
  injection hv with hA
  subst hA
  refine ⟨_, rfl, hlt, fun i hi => ?_⟩
  exact h.cells (g := g) rfl i _ (by rw [List.getElem?_map, List.getElem?_eq_getElem hi]; rfl)
/-- the bytes as cells, for 'append' -/
theorem Txt.news {a : Addr} (h : Txt w (some a) l) : ∀ j u, (l.map cellOf)[j]? = some u → w.cell? (a.add j) = some u := by
  intro j u hu
  have hj : j < l.length := by
    have := (List.getElem?_eq_some_iff.1 hu).1
    simpa using this
  obtain ⟨a', e, _, hc⟩ := h.at_ hj
  injection e with e
  subst e
  rw [hc]
  rw [List.getElem?_map, List.getElem?_eq_getElem hj] at hu
  exact hu
end
theorem cells_one (l : Text) : ∀ u ∈ l.map cellOf, u.oneCell' = true := by
  intro u hu
  obtain ⟨c, _, rfl⟩ := List.mem_map.1 hu
  rfl

/-- what is appended to a slice of the call's own, be the source nil or not -/
theorem append_run (w : World) (base : Nat) (v : Value) (n : Nat) (xs : List Value) (hown : w.ownsRow base 5 1 v n xs) (A : Option Addr) (c : Nat) (l : Text) (hT : Txt w A l) (hA : A = none → l = [])
    (h63 : n + l.length ≤ 140737488355328) (hbase : base ≤ w.heap.size) :
    ∃ v' w', (Builtin.append_ #[86, 86] 86 #[v, .slice A l.length c]).run Try.prog w = .ok v' w' ∧ w'.ownsRow base 5 1 v' (n + l.length) (xs ++ l.map cellOf) ∧ w.grownBy w' v.ownBlock ∧
      (v'.ownBlock = v.ownBlock ∨ v'.ownBlock = some w.heap.size) := by
  obtain ⟨i0, hi, hz0, hz1, hz2⟩ := info_parts u8fact
  rcases A with _ | a
  · have hl := hA rfl
    subst hl
    refine ⟨v, w, ?_, by simpa using hown, World.grownBy.refl w _, .inl rfl⟩
    rcases hown.2 with ⟨rfl, rfl⟩ | ⟨g, cap, cur, rfl, _, _, hnc, _⟩
    · simp [Builtin.append_, run_underlying Try.underlying86, sizeOf, typeInfo, hi, Builtin.lenOf, Builtin.firstCells]
    · simp [Builtin.append_, run_underlying Try.underlying86, sizeOf, typeInfo, hi, Builtin.lenOf, Builtin.firstCells, hnc, storeCells]
  · obtain ⟨v', w', h1, h2, h3, _, h5⟩ := run_append_own_at (P := Try.prog) w base 86 86 5 i0 (.int .u8 0) 1 1 Try.underlying86 hi hz0 hz1 hz2 rfl (by decide) v n xs hown a l.length c (l.map cellOf) (by simp)
      hT.news (cells_one l) (by unfold maxLen; omega) (by omega) hbase
    exact ⟨v', w', h1, h2, h3, h5⟩
theorem wpList_append_text {w : World} {ops : Array Oper} {rest : List Oper} {o : Oper} {a : Act} {Q : Exit → Act → World → Prop} (hgd : o.guard = none) (s x : Operand)
    (ho : o.op = .call { callee := .builtin .append, args := #[s, x], argTypes := #[86, 86] }) (hty : o.type = 86)
    (base : Nat) (v : Value) (n : Nat) (xs : List Value) (hs : a.eval s = v) (hown : w.ownsRow base 5 1 v n xs) (A : Option Addr) (c : Nat) (l : Text) (hx : a.eval x = .slice A l.length c)
    (hT : Txt w A l) (hA : A = none → l = []) (h63 : n + l.length ≤ 140737488355328) (hbase : base ≤ w.heap.size)
    (h : ∀ v' w', w'.ownsRow base 5 1 v' (n + l.length) (xs ++ l.map cellOf) → w.grownBy w' v.ownBlock → (v'.ownBlock = v.ownBlock ∨ v'.ownBlock = some w.heap.size) → wpList Try.prog ops Q rest (a.put o.dst v') w') :
    wpList Try.prog ops Q (o :: rest) a w := by
  refine wpList_plain hgd fun K hK => ?_
  obtain ⟨v', w', hr, h2, h3, h5⟩ := append_run w base v n xs hown A c l hT hA h63 hbase
  unfold Oper.wp execOp
  simp only [ho, hty, resolve, invoke, builtin, Sem.run_bind, Sem.run_pure, Result.andThen_ok, List.map_toArray, List.map_cons, List.map_nil, hs, hx, hr]
  exact hK _ _ (h v' w' h2 h3 h5)

/-- the text of bytes, as a string -/
theorem text_run (w : World) (A : Option Addr) (c : Nat) (l : Text) (hT : Txt w A l) (hA : A = none → l = []) :
    (convert 86 9 (.slice A l.length c)).run Try.prog w = .ok (.string ⟨l.toArray⟩) w := by
  rcases A with _ | a
  · have := hA rfl
    subst this
    exact Lib.run_convert_nil_bytes (P := Try.prog) w 86 9 5 c Try.underlying86 Try.underlying5 Try.underlying9
  · refine run_convert_bytes_back w 86 9 5 a c l Try.underlying86 Try.underlying5 Try.underlying9 fun j hj => ?_
    obtain ⟨a', e, _, hc⟩ := hT.at_ hj
    injection e with e
    subst e
    exact hc
end Go.Proofs.Ytfjecohokmelfaa
