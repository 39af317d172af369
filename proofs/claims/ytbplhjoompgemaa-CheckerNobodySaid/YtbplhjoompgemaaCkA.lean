/- What one row alone changes; rows of several cells. -/
import Derived.Test.YtbplhjoompgemaaBase
import Derived.Laws.Tables
import Derived.Laws.Rows
import Derived.Laws.CopyOwn
import Derived.WalkMore
import Derived.Laws.RangeAny
import Derived.Lib.SmallJoins
import Derived.ArgAppend
import Derived.Deep.MidRow
import Derived.Shelf.RegionOpen
import Derived.ScopeJumps
namespace Go.Proofs.Ytbplhjoompgemaa
open Go.RowKit
set_option maxRecDepth 100000
set_option linter.unusedSimpArgs false
set_option linter.unusedVariables false
attribute [local go_sem] Oper.semAt_some

theorem row2c {W : World} {g : Nat} {a b : Value} {t : TypeId} (h : W.heap[g]? = some (.cells #[a, b] t (0, 0))) : W.cell? ⟨g, 0, none⟩ = some a ∧ W.cell? ⟨g, 1, none⟩ = some b :=
  ⟨cell_of_row W g 0 _ _ _ h, cell_of_row W g 1 _ _ _ h⟩
def Chg (R : Nat) (w w' : World) : Prop := w.grownBy w' (some R)
theorem Chg.refl (R : Nat) (w : World) : Chg R w w := World.grownBy.refl w _
theorem Chg.size {R : Nat} {w w' : World} (h : Chg R w w') : w.heap.size ≤ w'.heap.size := World.grownBy.size h
theorem Chg.heap {R : Nat} {w w' : World} (h : Chg R w w') {k : Nat} (hk : k < w.heap.size) (hR : k ≠ R) : w'.heap[k]? = w.heap[k]? := h.block k hk (fun e => hR (Option.some.inj e))
theorem Chg.of {R : Nat} {w w' : World} (h : Below w.heap.size w w') : Chg R w w' := ⟨h.os, h.tape, h.output, h.size, fun k hk _ => h.block k hk⟩
theorem Chg.trans {R : Nat} {a b c : World} (h : Chg R a b) (k : Chg R b c) : Chg R a c :=
  ⟨k.os.trans h.os, k.tape.trans h.tape, k.output.trans h.output, Nat.le_trans (World.grownBy.size h) (World.grownBy.size k), fun i hi hr => (k.block i (Nat.lt_of_lt_of_le hi (World.grownBy.size h)) hr).trans (h.block i hi hr)⟩
theorem Chg.low {R : Nat} {w w' : World} (h : Chg R w w') {B : Nat} (hB : B ≤ R) (hs : B ≤ w.heap.size) : Below B w w' :=
  ⟨h.os, h.tape, h.output, h.size, fun k hk => h.heap (Nat.lt_of_lt_of_le hk hs) (by omega)⟩
theorem Chg.one {R : Nat} (w : World) (i : Nat) (v : Value) : Chg R w (w.setCell ⟨R, i, none⟩ v) :=
  ⟨rfl, rfl, rfl, by rw [World.size_setCell]; exact Nat.le_refl _, fun k _ hr => Below.heap_setCell w _ _ k (fun e => hr (by rw [e]))⟩
theorem row4c {W : World} {g : Nat} {a b c d : Value} {t : TypeId} (h : W.heap[g]? = some (.cells #[a, b, c, d] t (0, 0))) : W.cell? ⟨g, 0, none⟩ = some a ∧ W.cell? ⟨g, 1, none⟩ = some b ∧ W.cell? ⟨g, 2, none⟩ = some c ∧ W.cell? ⟨g, 3, none⟩ = some d :=
  ⟨cell_of_row W g 0 _ _ _ h, cell_of_row W g 1 _ _ _ h, cell_of_row W g 2 _ _ _ h, cell_of_row W g 3 _ _ _ h⟩
theorem box_row (w : World) (old new : Array Value) (t : TypeId) (hs : old.size = new.size) : Below w.heap.size w ((w.alloc (.cells old t)).setRow w.heap.size new) ∧ ((w.alloc (.cells old t)).setRow w.heap.size new).heap[w.heap.size]? = some (.cells new t (0, 0)) :=
  ⟨below_setRow (below_alloc w _) (Nat.le_refl _) _, setRow_heap _ _ _ _ _ _ (heap_alloc_new w _)⟩
theorem row5c {W : World} {g : Nat} {a b c d e : Value} {t : TypeId} (h : W.heap[g]? = some (.cells #[a, b, c, d, e] t (0, 0))) : W.cell? ⟨g, 0, none⟩ = some a ∧ W.cell? ⟨g, 1, none⟩ = some b ∧ W.cell? ⟨g, 2, none⟩ = some c ∧ W.cell? ⟨g, 3, none⟩ = some d ∧ W.cell? ⟨g, 4, none⟩ = some e :=
  ⟨cell_of_row W g 0 _ _ _ h, cell_of_row W g 1 _ _ _ h, cell_of_row W g 2 _ _ _ h, cell_of_row W g 3 _ _ _ h, cell_of_row W g 4 _ _ _ h⟩
theorem row6c {W : World} {g : Nat} {a b c d e f : Value} {t : TypeId} (h : W.heap[g]? = some (.cells #[a, b, c, d, e, f] t (0, 0))) : W.cell? ⟨g, 0, none⟩ = some a ∧ W.cell? ⟨g, 1, none⟩ = some b ∧ W.cell? ⟨g, 2, none⟩ = some c ∧ W.cell? ⟨g, 3, none⟩ = some d ∧ W.cell? ⟨g, 4, none⟩ = some e ∧ W.cell? ⟨g, 5, none⟩ = some f :=
  ⟨cell_of_row W g 0 _ _ _ h, cell_of_row W g 1 _ _ _ h, cell_of_row W g 2 _ _ _ h, cell_of_row W g 3 _ _ _ h, cell_of_row W g 4 _ _ _ h, cell_of_row W g 5 _ _ _ h⟩
theorem row_then {w w' : World} {g : Nat} {old new : Array Value} {t : TypeId} (h : w.heap[g]? = some (.cells old t (0, 0))) (hs : old.size = new.size) (hw : w' = w.setRow g new) : w'.heap[g]? = some (.cells new t (0, 0)) := by
  subst hw
  exact setRow_heap _ _ _ _ _ _ h
theorem Chg.new {R : Nat} {w w' : World} (h : Chg R w w') {g : Nat} (hg : w.heap.size ≤ g) (vs : Array Value) : Chg R w (w'.setRow g vs) := by
  refine ⟨h.os, h.tape, h.output, ?_, fun k hk hr => ?_⟩
  · have := World.grownBy.size h
    rw [setRow_size]; exact this
  · rw [setRow_other _ _ _ _ (by omega)]; exact h.block k hk hr
theorem wp_store_row {w : World} {o : Oper} {a : Act} {K : Act → World → Prop} {Q : Exit → Act → World → Prop} (T : TypeId) (x y : Operand) (ho : o.op = .store T x y) (g : Nat) (hx : a.eval x = .pointer (some ⟨g, 0, none⟩)) (vs : List Value)
    (hsz : (Try.prog.info? T).map (·.size) = some vs.length) (h1 : ∀ v ∈ vs, v.oneCell' = true) (hy : a.eval y = .agg vs.toArray) (cur : Array Value) (hc : cur.size = vs.length) (t : TypeId) (hg : w.heap[g]? = some (.cells cur t (0, 0)))
    (h : K (a.put o.dst undef) (w.setRow g vs.toArray)) : o.wp Try.prog a w K Q := by
  have hst := run_storeCells_at Try.prog g 0 t vs 0 cur w hg (by omega) h1
  have e : (cur.toList.take (0 + 0) ++ vs ++ cur.toList.drop (0 + 0 + vs.length)) = vs := by
    rw [List.drop_eq_nil_of_le (by simp [hc])]; simp
  rw [e] at hst
  have hs : (sizeOf T).run Try.prog w = .ok vs.length w := by
    cases hq : Try.prog.info? T with
    | none => simp [hq] at hsz
    | some i =>
      have hz : i.size = vs.length := by simpa [hq] using hsz
      simp [sizeOf, typeInfo, hq, hz]
  unfold Oper.wp execOp
  simp only [ho, hx, hy, Instr.storeAt, Instr.sureAddr, Sem.run_bind, Sem.run_pure, Result.andThen_ok, storeVar, Value.cells, hs, List.size_toArray, ne_eq, not_true_eq_false, if_false, hst]
  exact h
theorem wpList_store_row {w : World} {ops : Array Oper} {rest : List Oper} {o : Oper} {a : Act} {Q : Exit → Act → World → Prop} (T : TypeId) (hgd : o.guard = none) (x y : Operand) (ho : o.op = .store T x y) (g : Nat) (hx : a.eval x = .pointer (some ⟨g, 0, none⟩)) (vs : List Value)
    (hsz : (Try.prog.info? T).map (·.size) = some vs.length) (h1 : ∀ v ∈ vs, v.oneCell' = true) (hy : a.eval y = .agg vs.toArray) (cur : Array Value) (hc : cur.size = vs.length) (t : TypeId) (hg : w.heap[g]? = some (.cells cur t (0, 0)))
    (h : wpList Try.prog ops Q rest (a.put o.dst undef) (w.setRow g vs.toArray)) : wpList Try.prog ops Q (o :: rest) a w :=
  wpList_plain hgd fun _ hK => wp_store_row T x y ho g hx vs hsz h1 hy cur hc t hg (hK _ _ h)
end Go.Proofs.Ytbplhjoompgemaa
