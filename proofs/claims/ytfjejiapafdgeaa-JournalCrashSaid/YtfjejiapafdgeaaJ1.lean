/- A slice of bytes that holds a text, wherever it lies; nil is let in. A page: sixty-four bytes as a value, as a block, as a slice; held against another one. A disk in memory: its cells, its map of pages; the small calls on it. -/
import Derived.Test.YtfjejiapafdgeaaRows
import Derived.WalkKit
import Derived.WalkSpells
import Derived.Below
import Derived.Lib.Hide
import Derived.IntWalk
import Derived.OwnWalk
import Derived.Laws.OwnMore
import Derived.Laws.IdiomStrings
import Derived.Lib.BufferRead
import Derived.Maps.AppendAt
import Derived.Deep.AppendLies
import Derived.Deep.Draws
import Derived.Test.YtfjejiapafdgeaaProg
import Derived.Deep.MidRow
import Derived.Laws.CopyOwn
import Derived.Laws.StructEq
import Derived.Maps.OwnSet
import Derived.Lib.LazyBuf
namespace Go.Proofs.Ytfjejiapafdgeaa
open Go.RowKit
set_option maxRecDepth 100000

abbrev Text := List UInt8

theorem ret_int {k : IntKind} {a b : Int} (h : a = b) : Ending.returned (.int k a) = .returned (.int k b) := by rw [h]
theorem ret_bool {a b : Bool} (h : a = b) : Ending.returned (.bool a) = .returned (.bool b) := by rw [h]

theorem u8fact : (Try.prog.info? 5).map (fun i => (i.zero, i.size, i.bytes)) = some (some (.int .u8 0), 1, 1) := by kernel_rfl

theorem add_block (a : Addr) (n : Nat) : (a.add n).block = a.block := by
  unfold Addr.add
  by_cases h : n = 0
  · rw [if_pos h]
  · rw [if_neg h]
theorem add_twice (a : Addr) (i j : Nat) : (a.add i).add j = a.add (i + j) := by
  unfold Addr.add
  by_cases hi : i = 0
  · subst hi; simp
  · by_cases hj : j = 0
    · subst hj; simp
    · simp [hi, hj, Nat.add_assoc]

/-- a byte, as a cell has it -/
def cellOf (c : UInt8) : Value := .int .u8 (c.toNat : Int)
/-- at that address the bytes of a text lie, one behind the other; of no bytes nothing is asked -/
def Txt (w : World) (A : Option Addr) (l : Text) : Prop :=
  l ≠ [] → ∃ a, A = some a ∧ a.block < w.heap.size ∧ ∀ i (h : i < l.length), w.cell? (a.add i) = some (.int .u8 (l[i].toNat : Int))

section
variable {w w' : World} {A : Option Addr} {l : Text}
theorem Txt.none_ : Txt w A [] := fun h => absurd rfl h
theorem Txt.at_ (h : Txt w A l) {k : Nat} (hk : k < l.length) : ∃ a, A = some a ∧ a.block < w.heap.size ∧ w.cell? (a.add k) = some (.int .u8 (l[k].toNat : Int)) := by
  obtain ⟨a, e, hb, hc⟩ := h (by intro h0; subst h0; simp at hk)
  exact ⟨a, e, hb, hc k hk⟩
theorem Txt.keep (h : Txt w A l) (hs : w.heap.size ≤ w'.heap.size) (hk : ∀ p : Addr, p.block < w.heap.size → w'.cell? p = w.cell? p) : Txt w' A l := fun hn => by
  obtain ⟨a, e, hb, hc⟩ := h hn
  exact ⟨a, e, by omega, fun i hi => (hk _ (by rw [add_block]; exact hb)).trans (hc i hi)⟩
theorem Txt.below (h : Txt w A l) (hb : Below w.heap.size w w') : Txt w' A l := h.keep hb.size fun _ hp => hb.cell hp
theorem Txt.alloc (h : Txt w A l) (o : Obj) : Txt (w.alloc o) A l := h.below ((Below.refl _ _).alloc (Nat.le_refl _) o)
theorem Txt.drop {a : Addr} (h : Txt w (some a) l) (k : Nat) : Txt w (some (a.add k)) (l.drop k) := fun hn => by
  have hk : k < l.length := by
    rcases Nat.lt_or_ge k l.length with h0 | h0
    · exact h0
    · exact absurd (List.drop_eq_nil_of_le h0) hn
  obtain ⟨a', e, hb, hc⟩ := h (by intro h0; subst h0; simp at hk)
  injection e with e
  subst e
  refine ⟨_, rfl, by rw [add_block]; exact hb, fun i hi => ?_⟩
  rw [add_twice]
  have hi' : k + i < l.length := by rw [List.length_drop] at hi; omega
  rw [hc (k + i) hi', List.getElem_drop]
theorem Txt.take (h : Txt w A l) (k : Nat) : Txt w A (l.take k) := fun hn => by
  obtain ⟨a, e, hb, hc⟩ := h (by intro h0; subst h0; simp at hn)
  refine ⟨a, e, hb, fun i hi => ?_⟩
  rw [hc i (by simp at hi; omega), List.getElem_take]
theorem Txt.of_own {base : Nat} {n c : Nat} (h : w.ownsRow base 5 1 (.slice A n c) n (l.map cellOf)) : Txt w A l := fun hn => by
  have hl : n = l.length := by have := h.1; simp at this; omega
  have hp : 0 < n := by
    have := List.length_pos_iff.2 hn
    omega
  obtain ⟨g, cap, hv, _, hlt⟩ := h.form hp
  injection hv with hA
  subst hA
  refine ⟨_, rfl, hlt, fun i hi => ?_⟩
  exact h.cells (g := g) rfl i _ (by rw [List.getElem?_map, List.getElem?_eq_getElem hi]; rfl)
/-- the bytes as cells, for 'append' -/
theorem Txt.news {a : Addr} (h : Txt w (some a) l) : ∀ j u, (l.map cellOf)[j]? = some u → w.cell? (a.add j) = some u := by
  intro j u hu
  have hj : j < l.length := by
    have := (List.getElem?_eq_some_iff.1 hu).1
    simpa using this
  obtain ⟨a', e, _, hc⟩ := h.at_ hj
  injection e with e
  subst e
  rw [hc]
  rw [List.getElem?_map, List.getElem?_eq_getElem hj] at hu
  exact hu
end
theorem cells_one (l : Text) : ∀ u ∈ l.map cellOf, u.oneCell' = true := by
  intro u hu
  obtain ⟨c, _, rfl⟩ := List.mem_map.1 hu
  rfl

/-- what is appended to a slice of the call's own, be the source nil or not -/
theorem append_run (w : World) (base : Nat) (v : Value) (n : Nat) (xs : List Value) (hown : w.ownsRow base 5 1 v n xs) (A : Option Addr) (c : Nat) (l : Text) (hT : Txt w A l) (hA : A = none → l = [])
    (h63 : n + l.length ≤ 140737488355328) (hbase : base ≤ w.heap.size) :
    ∃ v' w', (Builtin.append_ #[51, 51] 51 #[v, .slice A l.length c]).run Try.prog w = .ok v' w' ∧ w'.ownsRow base 5 1 v' (n + l.length) (xs ++ l.map cellOf) ∧ w.grownBy w' v.ownBlock ∧
      (v'.ownBlock = v.ownBlock ∨ v'.ownBlock = some w.heap.size) := by
  obtain ⟨i0, hi, hz0, hz1, hz2⟩ := info_parts u8fact
  rcases A with _ | a
  · have hl := hA rfl
    subst hl
    refine ⟨v, w, ?_, by simpa using hown, World.grownBy.refl w _, .inl rfl⟩
    rcases hown.2 with ⟨rfl, rfl⟩ | ⟨g, cap, cur, rfl, _, _, hnc, _⟩
    · simp [Builtin.append_, run_underlying Try.underlying51, sizeOf, typeInfo, hi, Builtin.lenOf, Builtin.firstCells]
    · simp [Builtin.append_, run_underlying Try.underlying51, sizeOf, typeInfo, hi, Builtin.lenOf, Builtin.firstCells, hnc, storeCells]
  · obtain ⟨v', w', h1, h2, h3, _, h5⟩ := run_append_own_at (P := Try.prog) w base 51 51 5 i0 (.int .u8 0) 1 1 Try.underlying51 hi hz0 hz1 hz2 rfl (by decide) v n xs hown a l.length c (l.map cellOf) (by simp)
      hT.news (cells_one l) (by unfold maxLen; omega) (by omega) hbase
    exact ⟨v', w', h1, h2, h3, h5⟩
theorem wpList_append_text {w : World} {ops : Array Oper} {rest : List Oper} {o : Oper} {a : Act} {Q : Exit → Act → World → Prop} (hgd : o.guard = none) (s x : Operand)
    (ho : o.op = .call { callee := .builtin .append, args := #[s, x], argTypes := #[51, 51] }) (hty : o.type = 51)
    (base : Nat) (v : Value) (n : Nat) (xs : List Value) (hs : a.eval s = v) (hown : w.ownsRow base 5 1 v n xs) (A : Option Addr) (c : Nat) (l : Text) (hx : a.eval x = .slice A l.length c)
    (hT : Txt w A l) (hA : A = none → l = []) (h63 : n + l.length ≤ 140737488355328) (hbase : base ≤ w.heap.size)
    (h : ∀ v' w', w'.ownsRow base 5 1 v' (n + l.length) (xs ++ l.map cellOf) → w.grownBy w' v.ownBlock → (v'.ownBlock = v.ownBlock ∨ v'.ownBlock = some w.heap.size) → wpList Try.prog ops Q rest (a.put o.dst v') w') :
    wpList Try.prog ops Q (o :: rest) a w := by
  refine wpList_plain hgd fun K hK => ?_
  obtain ⟨v', w', hr, h2, h3, h5⟩ := append_run w base v n xs hown A c l hT hA h63 hbase
  unfold Oper.wp execOp
  simp only [ho, hty, resolve, invoke, builtin, Sem.run_bind, Sem.run_pure, Result.andThen_ok, List.map_toArray, List.map_cons, List.map_nil, hs, hx, hr]
  exact hK _ _ (h v' w' h2 h3 h5)

/-- the text of bytes, as a string -/
theorem text_run (w : World) (A : Option Addr) (c : Nat) (l : Text) (hT : Txt w A l) (hA : A = none → l = []) :
    (convert 51 9 (.slice A l.length c)).run Try.prog w = .ok (.string ⟨l.toArray⟩) w := by
  rcases A with _ | a
  · have := hA rfl
    subst this
    exact Lib.run_convert_nil_bytes (P := Try.prog) w 51 9 5 c Try.underlying51 Try.underlying5 Try.underlying9
  · refine run_convert_bytes_back w 51 9 5 a c l Try.underlying51 Try.underlying5 Try.underlying9 fun j hj => ?_
    obtain ⟨a', e, _, hc⟩ := hT.at_ hj
    injection e with e
    subst e
    exact hc
end Go.Proofs.Ytfjejiapafdgeaa

namespace Go.Proofs.Ytfjejiapafdgeaa
open Go.RowKit
set_option maxRecDepth 100000

theorem heapLt {w : World} {g : Nat} {o : Obj} (h : w.heap[g]? = some o) : g < w.heap.size := (Array.getElem?_eq_some_iff.1 h).1
def pageV (l : Text) : Value := .agg (l.map cellOf).toArray
theorem cellOf_inj {a b : UInt8} (h : cellOf a = cellOf b) : a = b := by
  unfold cellOf at h
  injection h with _ h
  exact UInt8.toNat_inj.1 (by omega)
theorem pageV_inj {a b : Text} (h : pageV a = pageV b) : a = b := by
  unfold pageV at h
  injection h with h
  have h2 : a.map cellOf = b.map cellOf := by
    have := congrArg Array.toList h
    simpa using this
  exact (List.map_inj_right (fun x y => cellOf_inj)).1 h2
def zeros : Text := List.replicate 64 0
theorem zeros_len : zeros.length = 64 := by simp [zeros]

/-- an array of sixty-four bytes -/
structure IsPage (T : TypeId) : Prop where
  und : Try.prog.underlying T = some (.array 64 5)
  size : (Try.prog.info? T).map (·.size) = some 64
  zero : (Try.prog.info? T).map (·.zero) = some (some (pageV zeros))
  guard : Try.prog.eqGuardType Try.prog.depth T = false

section
variable {T : TypeId} (hT : IsPage T) (w : World)
include hT
theorem zero_page : (zeroValue T).run Try.prog w = .ok (pageV zeros) w := by
  have h := hT.zero
  cases hq : Try.prog.info? T with
  | none => simp [hq] at h
  | some i =>
    have hz : i.zero = some (pageV zeros) := by simpa [hq] using h
    simp [zeroValue, typeInfo, hq, hz]
theorem size_page : (sizeOf T).run Try.prog w = .ok 64 w := by
  have h := hT.size
  cases hq : Try.prog.info? T with
  | none => simp [hq] at h
  | some i =>
    have hz : i.size = 64 := by simpa [hq] using h
    simp [sizeOf, typeInfo, hq, hz]
end
theorem newVar_page (T : TypeId) (w : World) (l : Text) : (newVar T (pageV l)).run Try.prog w = .ok ⟨w.heap.size, 0, none⟩ (w.alloc (.cells (l.map cellOf).toArray T)) := by
  rfl

section
variable {T : TypeId} (hT : IsPage T) {w : World} {ops : Array Oper} {rest : List Oper} {o : Oper} {a : Act} {Q : Exit → Act → World → Prop}
include hT
theorem wpList_alloc_page (hgd : o.guard = none) (ho : o.op = .alloc T)
    (h : wpList Try.prog ops Q rest (a.put o.dst (.pointer (some ⟨w.heap.size, 0, none⟩))) (w.alloc (.cells (zeros.map cellOf).toArray T))) : wpList Try.prog ops Q (o :: rest) a w := by
  refine wpList_plain hgd fun K hK => ?_
  unfold Oper.wp execOp
  simp only [ho, Instr.alloc, Sem.run_bind, zero_page hT, Result.andThen_ok, newVar_page, Sem.run_pure]
  exact hK _ _ h
theorem wpList_load_page (hgd : o.guard = none) (x : Operand) (ho : o.op = .load T x) (g : Nat) (hx : a.eval x = .pointer (some ⟨g, 0, none⟩)) (l : Text) (hl : l.length = 64) (t : TypeId) (fr : Nat × Nat)
    (hg : w.heap[g]? = some (.cells (l.map cellOf).toArray t fr)) (h : wpList Try.prog ops Q rest (a.put o.dst (pageV l)) w) : wpList Try.prog ops Q (o :: rest) a w := by
  refine wpList_load_mid hgd T x ho g 0 hx (l.map cellOf) _ ?_ hT.und rfl (by rw [hT.size]; simp [hl]) h
  have := World.rangeAt_of_block hg 0 64
  have e : ((l.map cellOf).toArray.extract 0 (0 + 64)).toList = l.map cellOf := by
    simp only [Nat.zero_add, List.extract_toArray, List.extract_eq_take_drop, List.drop_zero, Nat.sub_zero]
    exact List.take_of_length_le (by simp [hl])
  rwa [e] at this
theorem yieldsIf_load_page {S : World → Prop} (hw : Region.wanted o (yielded ops a.tmps) = true) (x : Operand) (ho : o.op = .load T x) (g : Nat) (hx : a.eval x = .pointer (some ⟨g, 0, none⟩)) (l : Text) (hl : l.length = 64) (t : TypeId) (fr : Nat × Nat)
    (hS : ∀ w, S w → w.heap[g]? = some (.cells (l.map cellOf).toArray t fr)) : YieldsIf Try.prog ops S o (pageV l) a := by
  refine yieldsIf_load_mid hw T x ho g 0 hx (l.map cellOf) _ (fun w h => ?_) hT.und rfl (by rw [hT.size]; simp [hl])
  have := World.rangeAt_of_block (hS w h) 0 64
  have e : ((l.map cellOf).toArray.extract 0 (0 + 64)).toList = l.map cellOf := by
    simp only [Nat.zero_add, List.extract_toArray, List.extract_eq_take_drop, List.drop_zero, Nat.sub_zero]
    exact List.take_of_length_le (by simp [hl])
  rwa [e] at this
theorem wpList_store_page (hgd : o.guard = none) (x y : Operand) (ho : o.op = .store T x y) (g : Nat) (hx : a.eval x = .pointer (some ⟨g, 0, none⟩)) (l : Text) (hl : l.length = 64) (hy : a.eval y = pageV l)
    (cur : Array Value) (hc : cur.size = 64) (t : TypeId) (hg : w.heap[g]? = some (.cells cur t (0, 0)))
    (h : wpList Try.prog ops Q rest (a.put o.dst undef) (w.setRow g (l.map cellOf).toArray)) : wpList Try.prog ops Q (o :: rest) a w := by
  refine wpList_plain hgd fun K hK => ?_
  have hst := run_storeCells_at Try.prog g 0 t (l.map cellOf) 0 cur w hg (by simp [hl, hc]) (cells_one l)
  have e : (cur.toList.take (0 + 0) ++ l.map cellOf ++ cur.toList.drop (0 + 0 + (l.map cellOf).length)) = l.map cellOf := by
    rw [List.drop_eq_nil_of_le (by simp [hl, hc])]; simp
  rw [e] at hst
  unfold Oper.wp execOp
  simp only [ho, hx, hy, Instr.storeAt, Instr.sureAddr, Sem.run_bind, Sem.run_pure, Result.andThen_ok, storeVar, pageV, Value.cells, size_page hT, List.size_toArray, List.length_map, hl, ne_eq, not_true_eq_false, if_false, hst]
  exact hK _ _ h
theorem wpList_zero_page (hgd : o.guard = none) (ho : o.op = .build T #[]) (h : wpList Try.prog ops Q rest (a.put o.dst (pageV zeros)) w) : wpList Try.prog ops Q (o :: rest) a w := by
  refine wpList_plain hgd fun K hK => ?_
  have h1 : (sizeOf 5).run Try.prog w = .ok 1 w := by rfl
  unfold Oper.wp execOp
  simp only [ho, Instr.build, Sem.run_bind, zero_page hT, Result.andThen_ok, run_underlying hT.und, h1, List.map_toArray, List.map_nil]
  exact hK _ _ h
end

theorem part_cell (w : World) (l : Text) (i : Nat) (hi : i < l.length) : (part 5 (l.map cellOf).toArray i).run Try.prog w = .ok (cellOf l[i]) w := by
  have h1 : (isAgg 5).run Try.prog w = .ok false w := by rfl
  simp [part, Sem.run_bind, h1, hi]
theorem cells_loop (d : Nat) (l m : Text) (hlm : l.length = m.length) (w : World) : ∀ (n s : Nat), s + n = l.length →
    (forIn (m := Sem) (List.range' s n 1) ((none : Option Bool), ()) fun i (_ : Option Bool × Unit) => do
            let a ← part 5 (List.map cellOf l).toArray (i * 1)
            let b ← part 5 (List.map cellOf m).toArray (i * 1)
            let c ← Op.equalIn (d + 1) 5 a b
            if (!c) = true then pure (ForInStep.done (some false, ())) else pure (ForInStep.yield (none, ()))).run Try.prog w =
      .ok (if l.drop s = m.drop s then (none, ()) else (some false, ())) w
  | 0, s, hs => by
    rw [List.drop_eq_nil_of_le (by omega), List.drop_eq_nil_of_le (by omega)]
    simp
  | n + 1, s, hs => by
    have h1 : s < l.length := by omega
    have h2 : s < m.length := by omega
    have ih := cells_loop d l m hlm w n (s + 1) (by omega)
    rw [List.range'_succ, List.forIn_cons]
    simp only [Nat.mul_one] at ih
    simp only [Nat.mul_one, Sem.run_bind, part_cell w l s h1, part_cell w m s h2, Result.andThen_ok]
    unfold cellOf
    rw [run_equalIn_int w d 5 .u8 .u8 _ _ Try.underlying5]
    rw [List.drop_eq_getElem_cons h1, List.drop_eq_getElem_cons h2]
    by_cases he : l[s] = m[s]
    · rw [he]
      simp only [beq_self_eq_true, Bool.not_true, Bool.false_eq_true, if_false, Result.andThen_ok, Sem.run_pure, List.cons.injEq, true_and]
      exact ih
    · have hne : ((l[s].toNat : Int) == (m[s].toNat : Int)) = false := by
        apply beq_false_of_ne
        intro h
        exact he (UInt8.toNat_inj.1 (by omega))
      have hd : ¬ (l[s] :: l.drop (s + 1) = m[s] :: m.drop (s + 1)) := fun h => he (List.cons.inj h).1
      rw [if_neg hd]
      simp [hne]
theorem eql_page {T : TypeId} (hT : IsPage T) (w : World) (d : Nat) (l m : Text) (hl : l.length = 64) (hm : m.length = 64) : (Op.equalIn (d + 2) T (pageV l) (pageV m)).run Try.prog w = .ok (decide (l = m)) w := by
  have h1 : (sizeOf 5).run Try.prog w = .ok 1 w := by rfl
  unfold pageV
  rw [Op.equalIn]
  simp only [Sem.run_bind, run_underlying hT.und, Result.andThen_ok, h1]
  rw [Std.Legacy.Range.forIn_eq_forIn_range']
  have h := cells_loop d l m (by omega) w 64 0 (by omega)
  simp only [List.drop_zero] at h
  have hr : List.range' [:64].start [:64].size [:64].step = List.range' 0 64 1 := by decide
  rw [hr, h]
  by_cases e : l = m
  · simp [e]
  · simp [e]
theorem eql_run {T : TypeId} (hT : IsPage T) (w : World) (x y : Operand) (l m : Text) (hl : l.length = 64) (hm : m.length = 64) :
    (do eqGuard .eql T x y (pageV l) (pageV m); binOp .eql T (pageV l) (pageV m) : Sem Value).run Try.prog w = .ok (.bool (decide (l = m))) w := by
  have h := eql_page hT w 9998 l m hl hm
  unfold pageV at *
  rw [Sem.run_bind, run_eqGuard_agg w .eql T x y _ _ hT.guard, Result.andThen_ok, run_eql_struct w T]
  rw [h]
  rfl
theorem neq_run {T : TypeId} (hT : IsPage T) (w : World) (x y : Operand) (l m : Text) (hl : l.length = 64) (hm : m.length = 64) :
    (do eqGuard .neq T x y (pageV l) (pageV m); binOp .neq T (pageV l) (pageV m) : Sem Value).run Try.prog w = .ok (.bool (!decide (l = m))) w := by
  have h := eql_page hT w 9998 l m hl hm
  unfold pageV at *
  rw [Sem.run_bind, run_eqGuard_agg w .neq T x y _ _ hT.guard, Result.andThen_ok, run_neq_struct w T]
  rw [h]
  rfl

section
variable {T : TypeId} (hT : IsPage T) {w : World} {ops : Array Oper} {rest : List Oper} {o : Oper} {a : Act} {Q : Exit → Act → World → Prop}
include hT
theorem wpList_eql_page (hgd : o.guard = none) (x y : Operand) (t : TypeId) (ho : o.op = .binOp .eql T x y t) (l m : Text) (hx : a.eval x = pageV l) (hy : a.eval y = pageV m) (hl : l.length = 64) (hm : m.length = 64) (b : Bool) (hb : decide (l = m) = b)
    (h : wpList Try.prog ops Q rest (a.put o.dst (.bool b)) w) : wpList Try.prog ops Q (o :: rest) a w := by
  subst hb
  refine wpList_plain hgd fun K hK => ?_
  have hr := eql_run hT w x y l m hl hm
  unfold Oper.wp execOp
  simp only [ho, hx, hy]
  rw [Sem.run_bind, hr]
  exact hK _ _ h
theorem wpList_neq_page (hgd : o.guard = none) (x y : Operand) (t : TypeId) (ho : o.op = .binOp .neq T x y t) (l m : Text) (hx : a.eval x = pageV l) (hy : a.eval y = pageV m) (hl : l.length = 64) (hm : m.length = 64) (b : Bool) (hb : decide (l = m) = !b)
    (h : wpList Try.prog ops Q rest (a.put o.dst (.bool b)) w) : wpList Try.prog ops Q (o :: rest) a w := by
  obtain rfl : (!decide (l = m)) = b := by rw [hb, Bool.not_not]
  refine wpList_plain hgd fun K hK => ?_
  have hr := neq_run hT w x y l m hl hm
  unfold Oper.wp execOp
  simp only [ho, hx, hy]
  rw [Sem.run_bind, hr]
  exact hK _ _ h
end
/-- what is copied over the head of a page -/
def overP (l s : Text) : Text := s.take 64 ++ l.drop (s.take 64).length
theorem overP_len {l s : Text} (hl : l.length = 64) : (overP l s).length = 64 := by
  unfold overP
  rw [List.length_append, List.length_drop]
  have : (s.take 64).length ≤ 64 := by rw [List.length_take]; omega
  omega
theorem wpList_copy_page {w : World} {ops : Array Oper} {rest : List Oper} {o : Oper} {a : Act} {Q : Exit → Act → World → Prop} (hgd : o.guard = none) (d s : Operand)
    (ho : o.op = .call { callee := .builtin .copy, args := #[d, s], argTypes := #[51, 51] }) (g cD : Nat) (hd : a.eval d = .slice (some ⟨g, 0, none⟩) 64 cD)
    (A : Option Addr) (c : Nat) (m : Text) (hs : a.eval s = .slice A m.length c) (hA : Txt w A m) (l : Text) (hl : l.length = 64) (t : TypeId) (hg : w.heap[g]? = some (.cells (l.map cellOf).toArray t (0, 0)))
    (h : ∀ w', w'.heap[g]? = some (.cells ((overP l m).map cellOf).toArray t (0, 0)) → (∀ k, k ≠ g → w'.heap[k]? = w.heap[k]?) → w'.heap.size = w.heap.size → w'.os = w.os → w'.tape = w.tape → w'.output = w.output →
      wpList Try.prog ops Q rest (a.put o.dst (.int .i64 ((m.take 64).length : Nat))) w') : wpList Try.prog ops Q (o :: rest) a w := by
  have hu8 : (Try.prog.info? 5).map (·.size) = some 1 := by kernel_rfl
  by_cases h0 : m = []
  · subst h0
    refine wpList_copy_nothing hgd d s _ _ ho 5 Try.underlying51 hu8 _ _ _ _ _ _ hd hs (by simp [Nat.min]) ?_
    exact h w (by simpa [overP] using hg) (fun _ _ => rfl) rfl rfl rfl rfl
  · obtain ⟨ad, rfl, _, hc⟩ := hA h0
    have hcl : ((m.take 64).map cellOf).length = Nat.min m.length 64 := by simp [Nat.min_comm]
    refine wpList_copy_own hgd d s _ _ ho 5 Try.underlying51 hu8 g 0 64 cD ad _ _ hd hs _ t hg ((m.take 64).map cellOf) hcl (fun j v hv => ?_) (by simp [hl]; omega) (cells_one _) ?_
    · have hj : j < (m.take 64).length := by
        have := (List.getElem?_eq_some_iff.1 hv).1
        simpa using this
      have hj2 : j < m.length := by rw [List.length_take] at hj; omega
      rw [hc j hj2]
      rw [List.getElem?_map, List.getElem?_eq_getElem hj, List.getElem_take] at hv
      exact hv
    · have e : ((List.map cellOf l).toArray.toList.take 0 ++ (List.map cellOf (m.take 64) ++ (List.map cellOf l).toArray.toList.drop (0 + (List.map cellOf (m.take 64)).length))).toArray = ((overP l m).map cellOf).toArray := by
        simp [overP, List.map_append, List.map_drop]
      rw [e]
      have hn : goInt ((m.take 64).map cellOf).length = .int .i64 ((m.take 64).length : Nat) := by simp [goInt]
      rw [hn]
      exact h _ (setRow_heap w g _ _ t _ hg) (fun k hk => setRow_other w g k _ hk) (by simp) rfl rfl rfl
/-- a page as a text in memory -/
theorem txt_page {w : World} {g : Nat} {l : Text} {t : TypeId} {fr : Nat × Nat} (hg : w.heap[g]? = some (.cells (l.map cellOf).toArray t fr)) : Txt w (some ⟨g, 0, none⟩) l := fun _ =>
  ⟨_, rfl, (Array.getElem?_eq_some_iff.1 hg).1, fun i hi => by
    have hr := World.rangeAt_of_block hg 0 l.length
    have := hr i (cellOf l[i]) (by simp [hi])
    rw [Addr.add_mid]
    exact this⟩
end Go.Proofs.Ytfjejiapafdgeaa

namespace Go.Proofs.Ytfjejiapafdgeaa
open Go.RowKit
set_option maxRecDepth 100000

theorem pageS : IsPage 124 := ⟨by kernel_rfl, by kernel_rfl, by kernel_rfl, by kernel_rfl⟩

open Classical in
/-- how a page reads -/
noncomputable def pageR (v : Value) : Option (DataW Unit × List MemPlace) := if h : ∃ l : Text, l.length = 64 ∧ v = pageV l then some (.lit (.string (Classical.choose h)), []) else none
theorem pageR_mk {l : Text} (hl : l.length = 64) : pageR (pageV l) = some (.lit (.string l), []) := by
  have h : ∃ m : Text, m.length = 64 ∧ pageV l = pageV m := ⟨l, hl, rfl⟩
  unfold pageR
  rw [dif_pos h]
  rw [← pageV_inj (Classical.choose_spec h).2]
theorem pageR_inv {v : Value} {l : Text} {ps : List MemPlace} (h : pageR v = some (.lit (.string l), ps)) : v = pageV l ∧ l.length = 64 := by
  unfold pageR at h
  split at h
  · rename_i hx
    simp only [Option.some.injEq, Prod.mk.injEq, DataW.lit.injEq, Lit.string.injEq] at h
    obtain ⟨h1, _⟩ := h
    have := Classical.choose_spec hx
    rw [h1] at this
    exact ⟨this.2, this.1⟩
  · cases h
theorem keyInt : Maps.Keyed Try.prog 3 := Maps.int_keyed Try.underlying3
theorem key_of (i : Nat) (hi : i < 9223372036854775808) : keyOf Try.prog 3 (.int .i64 i) = some (.int .i64 i) := Maps.keyOf_int_mk Try.underlying3 (WalkArith.wf_i64 (by omega))

structure DiskV where
  many : Nat
  S : Nat → Text
  dead : Bool
  set : Bool
  after : Int
  torn : Int
  writes : Int
def cellsD (bm : Nat) (d : DiskV) : Array Value := #[.int .i64 d.many, .map (some bm), .bool d.dead, .bool d.set, .int .i64 d.after, .int .i64 d.torn, .int .i64 d.writes]
def PagesD (w : World) (bm n : Nat) (d : DiskV) : Prop :=
  ∃ D : DataW Unit, w.ownsMap Try.prog 3 pageR bm n D ∧ ∀ i : Nat, i < d.many → D.atKey (.int .i64 i) (.lit (.string zeros)) = .lit (.string (d.S i)) ∧ (d.S i).length = 64
def Dsk (w : World) (B bm n : Nat) (d : DiskV) : Prop :=
  w.heap[B]? = some (.cells (cellsD bm d) 60 (0, 0)) ∧ PagesD w bm n d ∧ d.many ≤ 4096 ∧ bm ≠ B ∧ 0 < d.many
/-- nothing but block B and the map's was turned -/
structure ChgD (w w' : World) (B bm : Nat) : Prop where
  os : w'.os = w.os
  tape : w'.tape = w.tape
  output : w'.output = w.output
  size : w.heap.size ≤ w'.heap.size
  block : ∀ k, k < w.heap.size → k ≠ B → k ≠ bm → w'.heap[k]? = w.heap[k]?
section
variable {w w' w'' : World} {B bm n : Nat} {d : DiskV}
theorem ChgD.refl (w : World) (B bm : Nat) : ChgD w w B bm := ⟨rfl, rfl, rfl, Nat.le_refl _, fun _ _ _ _ => rfl⟩
theorem ChgD.trans (h : ChgD w w' B bm) (k : ChgD w' w'' B bm) : ChgD w w'' B bm :=
  ⟨k.os.trans h.os, k.tape.trans h.tape, k.output.trans h.output, Nat.le_trans h.size k.size, fun i hi h1 h2 => (k.block i (Nat.lt_of_lt_of_le hi h.size) h1 h2).trans (h.block i hi h1 h2)⟩
theorem ChgD.of_below (h : Below w.heap.size w w') : ChgD w w' B bm := ⟨h.os, h.tape, h.output, h.size, fun k hk _ _ => h.block k hk⟩
theorem ChgD.below (h : ChgD w w' B bm) {base : Nat} (h0 : base ≤ w.heap.size) (h1 : base ≤ B) (h2 : base ≤ bm) : Below base w w' :=
  ⟨h.os, h.tape, h.output, h.size, fun k hk => h.block k (by omega) (by omega) (by omega)⟩
theorem ChgD.cell (h : ChgD w w' B bm) {a : Addr} (h0 : a.block < w.heap.size) (h1 : a.block ≠ B) (h2 : a.block ≠ bm) : w'.cell? a = w.cell? a := World.cell?_of_block (h.block _ h0 h1 h2)
theorem ChgD.frozen (h : ChgD w w' B bm) {a : Addr} (h0 : a.block < w.heap.size) (h1 : a.block ≠ B) (h2 : a.block ≠ bm) : w'.frozen? a = w.frozen? a := World.frozen?_of_block (h.block _ h0 h1 h2)
theorem PagesD.lt (h : PagesD w bm n d) : bm < w.heap.size := let ⟨_, h, _⟩ := h; h.lt
theorem PagesD.kept (h : PagesD w bm n d) (hb : w'.heap[bm]? = w.heap[bm]?) : PagesD w' bm n d := by
  obtain ⟨D, h1, h2⟩ := h
  refine ⟨D, ?_, h2⟩
  obtain ⟨es, clock, hh, r⟩ := h1
  exact ⟨es, clock, hb.trans hh, r⟩
theorem Dsk.lt (h : Dsk w B bm n d) : B < w.heap.size := heapLt h.1
theorem Dsk.below (h : Dsk w B bm n d) (hb : Below w.heap.size w w') : Dsk w' B bm n d :=
  ⟨(hb.block B h.lt).trans h.1, h.2.1.kept (hb.block bm h.2.1.lt), h.2.2⟩
theorem Dsk.cells (h : Dsk w B bm n d) : w.cell? ⟨B, 0, none⟩ = some (.int .i64 d.many) ∧ w.cell? ⟨B, 1, none⟩ = some (.map (some bm)) ∧ w.cell? ⟨B, 2, none⟩ = some (.bool d.dead) ∧ w.cell? ⟨B, 3, none⟩ = some (.bool d.set) ∧
    w.cell? ⟨B, 4, none⟩ = some (.int .i64 d.after) ∧ w.cell? ⟨B, 5, none⟩ = some (.int .i64 d.torn) ∧ w.cell? ⟨B, 6, none⟩ = some (.int .i64 d.writes) := by
  have h0 := cell_of_row w B 0 _ _ _ h.1
  have h1 := cell_of_row w B 1 _ _ _ h.1
  have h2 := cell_of_row w B 2 _ _ _ h.1
  have h3 := cell_of_row w B 3 _ _ _ h.1
  have h4 := cell_of_row w B 4 _ _ _ h.1
  have h5 := cell_of_row w B 5 _ _ _ h.1
  have h6 := cell_of_row w B 6 _ _ _ h.1
  exact ⟨h0, h1, h2, h3, h4, h5, h6⟩
theorem Dsk.frozen (h : Dsk w B bm n d) (i : Nat) : w.frozen? ⟨B, i, none⟩ = false := frozen_of_row w B i _ _ h.1
end

theorem code_dlen (w : World) (B bm n : Nat) (d : DiskV) (h : Dsk w B bm n d) : Calls Try.prog 46 #[.pointer (some ⟨B, 0, none⟩)] w fun e w' => e = .returned (.int .i64 d.many) ∧ w = w' := by
  obtain ⟨h0, _⟩ := h.cells
  clear h
  go_enter Try.func46, Try.ntmps46
  go_wp2
  go_ret
  exact ⟨rfl, rfl⟩
theorem code_dmade (w : World) (B bm n : Nat) (d : DiskV) (h : Dsk w B bm n d) : Calls Try.prog 54 #[.pointer (some ⟨B, 0, none⟩)] w fun e w' => e = .returned (.bool true) ∧ w = w' := by
  have HL := Lib.hid (code_dlen w B bm n d h)
  have hp : (0 : Int) < (d.many : Int) := by have := h.2.2.2.2; omega
  clear h
  go_enter Try.func54, Try.ntmps54
  go_wp2_with (go_at_call 46; refine HL.out.mono ?_; rintro e w1 ⟨rfl, rfl⟩)
  go_ret
  exact ⟨ret_bool (by simpa using hp), rfl⟩
/-- why a sector can't be read -/
def reachV (d : DiskV) (i : Int) : Int := if d.dead = true then 32 else if i < 0 ∨ (d.many : Int) ≤ i then 30 else 0
theorem code_reach (w : World) (B bm n : Nat) (d : DiskV) (i : Int) (h : Dsk w B bm n d) : Calls Try.prog 62 #[.pointer (some ⟨B, 0, none⟩), .int .i64 i] w fun e w' => e = .returned (.int .i64 (reachV d i)) ∧ w = w' := by
  have HM := Lib.hid (code_dmade w B bm n d h)
  obtain ⟨h0, _, h2, _⟩ := h.cells
  clear h
  obtain ⟨m, hm⟩ : ∃ m : Int, m = (d.many : Int) := ⟨_, rfl⟩
  have HD : Hid (reachV d i = if d.dead = true then 32 else if i < 0 ∨ m ≤ i then 30 else 0) := Lib.hid (by rw [hm]; rfl)
  rw [← hm] at h0
  clear hm
  generalize d.dead = dd at *
  by_cases hd : dd = true
  · subst hd
    go_enter Try.func62, Try.ntmps62
    go_wp2_with (go_at_call 54; refine HM.out.mono ?_; rintro e w1 ⟨rfl, rfl⟩)
    go_ret
    exact ⟨ret_int (by rw [HD.out]; rfl), rfl⟩
  · obtain rfl : dd = false := by simpa using hd
    by_cases h1 : i < 0
    · go_enter Try.func62, Try.ntmps62
      go_wp2_with (go_at_call 54; refine HM.out.mono ?_; rintro e w1 ⟨rfl, rfl⟩)
      go_ret
      exact ⟨ret_int (by rw [HD.out, if_neg (by simp), if_pos (.inl h1)]), rfl⟩
    · have h1' : 0 ≤ i := by omega
      by_cases h3 : m ≤ i
      · go_enter Try.func62, Try.ntmps62
        go_wp2_with (go_at_call 54; refine HM.out.mono ?_; rintro e w1 ⟨rfl, rfl⟩)
        go_ret
        exact ⟨ret_int (by rw [HD.out, if_neg (by simp), if_pos (.inr h3)]), rfl⟩
      · have h3' : i < m := by omega
        go_enter Try.func62, Try.ntmps62
        go_wp2_with (go_at_call 54; refine HM.out.mono ?_; rintro e w1 ⟨rfl, rfl⟩)
        go_ret
        exact ⟨ret_int (by rw [HD.out, if_neg (by simp), if_neg (by omega)]), rfl⟩
theorem code_dead (w : World) (B bm n : Nat) (d : DiskV) (h : Dsk w B bm n d) : Calls Try.prog 56 #[.pointer (some ⟨B, 0, none⟩)] w fun e w' => e = .returned (.bool d.dead) ∧ w = w' := by
  obtain ⟨h0, _, h2, _⟩ := h.cells
  clear h
  go_enter Try.func56, Try.ntmps56
  go_wp2
  go_ret
  exact ⟨rfl, rfl⟩
theorem code_writes (w : World) (B bm n : Nat) (d : DiskV) (h : Dsk w B bm n d) : Calls Try.prog 25 #[.pointer (some ⟨B, 0, none⟩)] w fun e w' => e = .returned (.int .i64 d.writes) ∧ w = w' := by
  obtain ⟨_, _, _, _, _, _, h6⟩ := h.cells
  clear h
  go_enter Try.func25, Try.ntmps25
  go_wp2
  go_ret
  exact ⟨rfl, rfl⟩
end Go.Proofs.Ytfjejiapafdgeaa
