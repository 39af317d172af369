/- Where a day's things count. -/
import Derived.Test.YtdacpiegfobhbaaPdE
namespace Go.Proofs.Ytdacpiegfobhbaa
open Go.RowKit
set_option maxRecDepth 100000
set_option linter.unusedSimpArgs false
set_option linter.unusedVariables false

open Go in
theorem yieldsIf_load_rowE {P : Program} {ops : Array Oper} {S : World → Prop} {op : Oper} {a : Act} (hw : Region.wanted op (yielded ops a.tmps) = true) (ty : TypeId) (x : Operand) (ho : op.op = .load ty x)
    (g : Nat) (hx : a.eval x = .pointer (some ⟨g, 0, none⟩)) (t : TypeId) (cs : Array Value) (fr : Nat × Nat) (d : TypeDesc) (hg : ∀ w, S w → w.heap[g]? = some (.cells cs t fr))
    (hu : P.underlying ty = some d) (hd : (match d with | .struct _ | .array _ _ => true | _ => false) = true) (hi : (P.info? ty).map (·.size) = some cs.size) : YieldsIf P ops S op (.agg cs) a :=
  .inl ⟨hw, fun w hw' => by
    unfold execOp
    simp only [ho, hx, Instr.loadAt, Instr.sureAddr, Sem.run_bind, Sem.run_pure, Result.andThen_ok, run_loadVar_row w g t ty cs fr d (hg w hw') hu hd hi]⟩
theorem there3 {w : World} {g : Nat} {a b c : Value} {t : TypeId} (h : w.heap[g]? = some (.cells #[a, b, c] t (0, 0))) : w.there g 0 3 := fun j hj => by
  refine ⟨?_, frozen_of_row _ _ _ _ _ h⟩
  rw [cell_of_row _ _ _ _ _ _ h, Array.getElem?_eq_getElem (show 0 + j < 3 by omega)]
  rfl
theorem row_setCells3 {w : World} {g : Nat} {a b c : Value} {t : TypeId} (a' b' c' : Value) (h : w.heap[g]? = some (.cells #[a, b, c] t (0, 0))) : (w.setCells g 0 [a', b', c']).heap[g]? = some (.cells #[a', b', c'] t (0, 0)) :=
  heap_setCells3 w g 0 _ t a' b' c' h
theorem far_setCells3 {w : World} {g k : Nat} {a' b' c' : Value} (hk : k ≠ g) : (w.setCells g 0 [a', b', c']).heap[k]? = w.heap[k]? :=
  (heap_setCell_other _ ⟨g, 2, none⟩ k c' hk).trans ((heap_setCell_other _ ⟨g, 1, none⟩ k b' hk).trans (heap_setCell_other _ ⟨g, 0, none⟩ k a' hk))
theorem far_put3 {w : World} {g k : Nat} {a' b' c' : Value} (hk : k ≠ g) : (((w.setCell ⟨g, 0, none⟩ a').setCell ⟨g, 1, none⟩ b').setCell ⟨g, 2, none⟩ c').heap[k]? = w.heap[k]? := far_setCells3 hk
theorem below_setCells3 {B : Nat} {w W : World} {g : Nat} {a' b' c' : Value} (h : Below B w W) (hB : B ≤ g) : Below B w (W.setCells g 0 [a', b', c']) := ((h.setCell (p := ⟨g, 0, none⟩) hB a').setCell (p := ⟨g, 1, none⟩) hB b').setCell (p := ⟨g, 2, none⟩) hB c'
theorem below_put3 {B : Nat} {w W : World} {g : Nat} {a' b' c' : Value} (h : Below B w W) (hB : B ≤ g) : Below B w (((W.setCell ⟨g, 0, none⟩ a').setCell ⟨g, 1, none⟩ b').setCell ⟨g, 2, none⟩ c') := below_setCells3 h hB
/-- a period as a value: of a place; nothing -/
def perV (k n : Int) : Value := .agg #[.int .i64 (Civ.perK k n), .int .i64 (Civ.perY k n), .int .i64 (Civ.perI k n)]
def zeroP : Value := .agg #[.int .i64 0, .int .i64 0, .int .i64 0]
theorem cells3_row {w : World} {g : Nat} {a b c : Value} {t : TypeId} (q : w.heap[g]? = some (.cells #[a, b, c] t (0, 0))) : w.cell? ⟨g, 0, none⟩ = some a ∧ w.cell? ⟨g, 1, none⟩ = some b ∧ w.cell? ⟨g, 2, none⟩ = some c := ⟨cell_of_row _ _ 0 _ _ _ q, cell_of_row _ _ 1 _ _ _ q, cell_of_row _ _ 2 _ _ _ q⟩
theorem frozen3_row {w : World} {g : Nat} {a b c : Value} {t : TypeId} (q : w.heap[g]? = some (.cells #[a, b, c] t (0, 0))) : w.frozen? ⟨g, 0, none⟩ = false ∧ w.frozen? ⟨g, 1, none⟩ = false ∧ w.frozen? ⟨g, 2, none⟩ = false := ⟨frozen_of_row _ _ 0 _ _ q, frozen_of_row _ _ 1 _ _ q, frozen_of_row _ _ 2 _ _ q⟩
end Go.Proofs.Ytdacpiegfobhbaa
