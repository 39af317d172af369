/- A page made and stored, in a fence. -/
import Derived.Test.YthgakgjhcadajaaJ2
import Derived.Test.YthgakgjhcadajaaJ12
namespace Go.Proofs.Ythgakgjhcadajaa
open Go.RowKit
set_option maxRecDepth 100000

section
variable {F : Fence} {nF : Nat} {w : World} {ops : Array Oper} {rest : List Oper} {o : Oper} {a : Act} {Q : Exit → Act → World → Prop}
theorem wpListIn_alloc_page {T : TypeId} (hT : IsPage T) (hgd : o.guard = none) (ho : o.op = .alloc T)
    (h : wpListIn F nF Try.prog ops Q rest (a.put o.dst (.pointer (some ⟨w.heap.size, 0, none⟩))) (w.alloc (.cells (zeros.map cellOf).toArray T))) : wpListIn F nF Try.prog ops Q (o :: rest) a w := by
  refine wpListIn_plain hgd fun K hK => ?_
  unfold Oper.wpIn
  refine ⟨by simp [Oper.about, ho], ?_⟩
  rw [Oper.semAt_plain F _ _ (by rw [ho]; intro c hc'; cases hc')]
  unfold execOp
  simp only [ho, Instr.alloc, Sem.run_bind, zero_page hT, Result.andThen_ok, newVar_page, Sem.run_pure]
  exact hK _ _ h
theorem wpListIn_store_page {T : TypeId} (hT : IsPage T) (hgd : o.guard = none) (x y : Operand) (ho : o.op = .store T x y) (g : Nat) (hx : a.eval x = .pointer (some ⟨g, 0, none⟩)) (l : Text) (hl : l.length = 64) (hy : a.eval y = pageV l)
    (cur : Array Value) (hc : cur.size = 64) (t : TypeId) (hg : w.heap[g]? = some (.cells cur t (0, 0)))
    (h : wpListIn F nF Try.prog ops Q rest (a.put o.dst undef) (w.setRow g (l.map cellOf).toArray)) : wpListIn F nF Try.prog ops Q (o :: rest) a w := by
  refine wpListIn_plain hgd fun K hK => ?_
  have hst := run_storeCells_at Try.prog g 0 t (l.map cellOf) 0 cur w hg (by simp [hl, hc]) (cells_one l)
  have e : (cur.toList.take (0 + 0) ++ l.map cellOf ++ cur.toList.drop (0 + 0 + (l.map cellOf).length)) = l.map cellOf := by
    rw [List.drop_eq_nil_of_le (by simp [hl, hc])]; simp
  rw [e] at hst
  unfold Oper.wpIn
  refine ⟨by simp [Oper.about, ho], ?_⟩
  rw [Oper.semAt_plain F _ _ (by rw [ho]; intro c hc'; cases hc')]
  unfold execOp
  simp only [ho, hx, hy, Instr.storeAt, Instr.sureAddr, Sem.run_bind, Sem.run_pure, Result.andThen_ok, storeVar, pageV, Value.cells, size_page hT, List.size_toArray, List.length_map, hl, ne_eq, not_true_eq_false, if_false, hst]
  exact hK _ _ h
end
end Go.Proofs.Ythgakgjhcadajaa
