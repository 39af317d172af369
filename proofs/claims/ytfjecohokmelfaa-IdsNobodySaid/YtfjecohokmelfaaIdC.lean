/- Documents that are there: what a credit takes back; whether one is there. -/
import Derived.Test.YtfjecohokmelfaaIdB
import Derived.Laws.Tables
import Derived.Laws.Rows
import Derived.Laws.StructEq
import Derived.Laws.CopyOwn
namespace Go.Proofs.Ytfjecohokmelfaa
open Go.RowKit
set_option maxRecDepth 100000
set_option linter.unusedSimpArgs false
set_option linter.unusedVariables false
attribute [local go_sem] Oper.semAt_some

theorem docC_one (d : DocV) : (docC d).toArray.all (·.oneCell') = true := by simp [docC, Value.oneCell']
theorem doc_info : (Try.prog.info? 29).map (·.size) = some 9 := by kernel_rfl
theorem deal_info : (Try.prog.info? 70).map (·.size) = some 4 := by kernel_rfl
theorem code_dealOf (d : DocV) (w : World) : Calls Try.prog 43 #[docVal d] w fun e w' => e = .returned (.agg #[.bool d.sale, .string d.country, .string d.number, .string d.currency]) ∧ Below w.heap.size w w' := by
  have h0 := heap_alloc2_old w (.cells #[.string d.id, .bool d.sale, .bool d.credit, .string d.refers, .int .i64 d.day, .string d.country, .string d.number, .string d.currency, .slice d.linesA d.lines.length d.linesC] 29) (.cells #[.bool false, .string ⟨#[]⟩, .string ⟨#[]⟩, .string ⟨#[]⟩] 70)
  have h1 := heap_alloc2_new w (.cells #[.string d.id, .bool d.sale, .bool d.credit, .string d.refers, .int .i64 d.day, .string d.country, .string d.number, .string d.currency, .slice d.linesA d.lines.length d.linesC] 29) (.cells #[.bool false, .string ⟨#[]⟩, .string ⟨#[]⟩, .string ⟨#[]⟩] 70)
  obtain ⟨u0, u1, u2, u3, u4, u5, u6, u7, u8⟩ := cellsLineV h0
  have H1 := Lib.hid h1
  have HB := Lib.hid (below_then (below_alloc w (.cells #[.string d.id, .bool d.sale, .bool d.credit, .string d.refers, .int .i64 d.day, .string d.country, .string d.number, .string d.currency, .slice d.linesA d.lines.length d.linesC] 29)) (below_alloc _ (.cells #[.bool false, .string ⟨#[]⟩, .string ⟨#[]⟩, .string ⟨#[]⟩] 70)))
  have HR := Lib.hid (setRow_heap ((w.alloc (.cells #[.string d.id, .bool d.sale, .bool d.credit, .string d.refers, .int .i64 d.day, .string d.country, .string d.number, .string d.currency, .slice d.linesA d.lines.length d.linesC] 29)).alloc (.cells #[.bool false, .string ⟨#[]⟩, .string ⟨#[]⟩, .string ⟨#[]⟩] 70)) (w.heap.size + 1) _ #[.bool d.sale, .string d.country, .string d.number, .string d.currency] _ _ h1)
  clear h0 h1
  unfold docVal docC
  go_enter Try.func43, Try.ntmps43
  go_wp2_with ((with_reducible refine wpList_store_row (o := ⟨none, _, _, _, _, _⟩) ?b1 70 (.tmp 2) (.tmp 11) ?b2 (w.heap.size + 1) #[.bool d.sale, .string d.country, .string d.number, .string d.currency] ?b3 ?b4 70 #[.bool false, .string ⟨#[]⟩, .string ⟨#[]⟩, .string ⟨#[]⟩] ?b7 ?b6 ?b5 ?b8 ?_); (case b1 => rfl); (case b2 => rfl); (case b3 => rfl); (case b4 => rfl); (case b7 => exact H1.out); (case b6 => exact deal_info); (case b5 => rfl); (case b8 => simp [Value.oneCell']); (try simp only [Act.put]); refine Stop.out ?_)
  unfold Stop
  have HB2 := Lib.hid (below_setRow (g := w.heap.size + 1) HB.out (Nat.le_succ _) #[.bool d.sale, .string d.country, .string d.number, .string d.currency])
  clear u0 u1 u2 u3 u4 u5 u6 u7 u8
  generalize World.setRow _ _ _ = w9 at HR HB2 ⊢
  go_wp2
  exact bodyPost_ret (results_cell_row Try.results43 _ _ (w.heap.size + 1) 70 #[.bool d.sale, .string d.country, .string d.number, .string d.currency] (0, 0) _ rfl HR.out Try.underlying70 rfl deal_info) rfl ⟨rfl, HB2.out⟩
end Go.Proofs.Ytfjecohokmelfaa
