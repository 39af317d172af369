/- Documents that are there: who is made; what a set that no call made tells; what a credit takes back. Documents that are there: what a credit takes back; whether one is there. -/
import Derived.Test.YtjanhgekocpobaaIdA
import Derived.Laws.Tables
import Derived.Laws.Rows
import Derived.Laws.StructEq
import Derived.Laws.CopyOwn
namespace Go.Proofs.Ytjanhgekocpobaa
open Go.RowKit
set_option maxRecDepth 100000
set_option linter.unusedSimpArgs false
set_option linter.unusedVariables false
attribute [local go_sem] Oper.semAt_some

theorem cells2 {W : World} {g : Nat} {a b : Value} {t : TypeId} (h : W.heap[g]? = some (.cells #[a, b] t (0, 0))) : W.cell? ⟨g, 0, none⟩ = some a ∧ W.cell? ⟨g, 1, none⟩ = some b :=
  ⟨cell_of_row W g 0 _ _ _ h, cell_of_row W g 1 _ _ _ h⟩
theorem neq_map (b : Nat) (W : World) : Sem.run Try.prog (binOp .neq 45 (.map (some b)) (.map none)) W = .ok (.bool true) W := by
  first | rfl | (simp [binOp]; done) | (unfold binOp; rfl)
theorem neq_map0 (W : World) : Sem.run Try.prog (binOp .neq 45 (.map none) (.map none)) W = .ok (.bool false) W := by
  first | rfl | (simp [binOp]; done) | (unfold binOp; rfl)
theorem code_made (w : World) (P bm : Nat) (c0 : w.cell? ⟨P, 0, none⟩ = some (.map (some bm))) : Calls Try.prog 22 #[.pointer (some ⟨P, 0, none⟩)] w fun e w' => e = .returned (.bool true) ∧ w = w' := by
  have hq := neq_map bm w
  go_enter Try.func22, Try.ntmps22
  go_wp2
  go_ret
  exact ⟨rfl, rfl⟩
theorem code_made_nil (w : World) : Calls Try.prog 22 #[.pointer none] w fun e w' => e = .returned (.bool false) ∧ w = w' := by
  go_enter Try.func22, Try.ntmps22
  go_wp2
  go_ret
  exact ⟨rfl, rfl⟩
theorem code_made_bare (w : World) (P : Nat) (c0 : w.cell? ⟨P, 0, none⟩ = some (.map none)) : Calls Try.prog 22 #[.pointer (some ⟨P, 0, none⟩)] w fun e w' => e = .returned (.bool false) ∧ w = w' := by
  have hq := neq_map0 w
  go_enter Try.func22, Try.ntmps22
  go_wp2
  go_ret
  exact ⟨rfl, rfl⟩
/-- not made by a call -/
def NotMade (p : Value) (w : World) : Prop := ∀ W, Below w.heap.size w W → Calls Try.prog 22 #[p] W fun e w' => e = .returned (.bool false) ∧ W = w'
theorem NotMade.on {p : Value} {w w' : World} (h : NotMade p w) (hb : Below w.heap.size w w') : NotMade p w' := fun W hW => h W (below_then hb hW)
theorem len_not {p : Value} {w : World} (h : NotMade p w) : Calls Try.prog 18 #[p] w fun e w' => e = .returned (.int .i64 0) ∧ w = w' := by
  have HM := Lib.hid (h w (below_same w))
  clear h
  go_enter Try.func18, Try.ntmps18
  go_wp2_with (go_at_call 22; refine HM.out.mono ?_; rintro e w1 ⟨rfl, rfl⟩)
  go_ret
  exact ⟨rfl, rfl⟩
theorem credits_not {p : Value} {w : World} (s : ByteArray) (h : NotMade p w) : Calls Try.prog 16 #[p, .string s] w fun e w' => e = .returned (.slice none 0 0) ∧ w = w' := by
  have HM := Lib.hid (h w (below_same w))
  clear h
  go_enter Try.func16, Try.ntmps16
  go_wp2_with (go_at_call 22; refine HM.out.mono ?_; rintro e w1 ⟨rfl, rfl⟩)
  go_ret
  exact ⟨rfl, rfl⟩
theorem check_not {p : Value} {w : World} (d : DocV) (h : NotMade p w) : Calls Try.prog 9 #[p, docVal d] w fun e w' => e = .returned (.int .i64 1) ∧ Below w.heap.size w w' := by
  have HM := Lib.hid (fun o => h (w.alloc o) (below_alloc w o))
  have HB := Lib.hid (fun o => below_alloc w o)
  unfold docVal docC
  clear h
  go_enter Try.func9, Try.ntmps9
  go_wp2_with (go_at_call 22; refine (HM.out _).mono ?_; rintro e w1 ⟨rfl, rfl⟩)
  go_ret
  exact ⟨rfl, HB.out _⟩
theorem code_isAny (d : DocV) (w : World) : Calls Try.prog 25 #[docVal d] w fun e w' => e = .returned (.bool true) ∧ Below w.heap.size w w' := by
  have HB := Lib.hid (fun o => below_alloc w o)
  unfold docVal docC
  go_enter Try.func25, Try.ntmps25
  go_wp2
  go_ret
  exact ⟨rfl, HB.out _⟩
end Go.Proofs.Ytjanhgekocpobaa

namespace Go.Proofs.Ytjanhgekocpobaa
open Go.RowKit
set_option maxRecDepth 100000
set_option linter.unusedSimpArgs false
set_option linter.unusedVariables false
attribute [local go_sem] Oper.semAt_some

theorem docC_one (d : DocV) : (docC d).toArray.all (·.oneCell') = true := by simp [docC, Value.oneCell']
theorem doc_info : (Try.prog.info? 29).map (·.size) = some 9 := by kernel_rfl
theorem deal_info : (Try.prog.info? 70).map (·.size) = some 4 := by kernel_rfl
theorem code_dealOf (d : DocV) (w : World) : Calls Try.prog 43 #[docVal d] w fun e w' => e = .returned (.agg #[.bool d.sale, .string d.country, .string d.number, .string d.currency]) ∧ Below w.heap.size w w' := by
  have h0 := heap_alloc2_old w (.cells #[.string d.id, .bool d.sale, .bool d.credit, .string d.refers, .int .i64 d.day, .string d.country, .string d.number, .string d.currency, .slice d.linesA d.lines.length d.linesC] 29) (.cells #[.bool false, .string ⟨#[]⟩, .string ⟨#[]⟩, .string ⟨#[]⟩] 70)
  have h1 := heap_alloc2_new w (.cells #[.string d.id, .bool d.sale, .bool d.credit, .string d.refers, .int .i64 d.day, .string d.country, .string d.number, .string d.currency, .slice d.linesA d.lines.length d.linesC] 29) (.cells #[.bool false, .string ⟨#[]⟩, .string ⟨#[]⟩, .string ⟨#[]⟩] 70)
  obtain ⟨u0, u1, u2, u3, u4, u5, u6, u7, u8⟩ := cellsLineV h0
  have H1 := Lib.hid h1
  have HB := Lib.hid (below_then (below_alloc w (.cells #[.string d.id, .bool d.sale, .bool d.credit, .string d.refers, .int .i64 d.day, .string d.country, .string d.number, .string d.currency, .slice d.linesA d.lines.length d.linesC] 29)) (below_alloc _ (.cells #[.bool false, .string ⟨#[]⟩, .string ⟨#[]⟩, .string ⟨#[]⟩] 70)))
  have HR := Lib.hid (setRow_heap ((w.alloc (.cells #[.string d.id, .bool d.sale, .bool d.credit, .string d.refers, .int .i64 d.day, .string d.country, .string d.number, .string d.currency, .slice d.linesA d.lines.length d.linesC] 29)).alloc (.cells #[.bool false, .string ⟨#[]⟩, .string ⟨#[]⟩, .string ⟨#[]⟩] 70)) (w.heap.size + 1) _ #[.bool d.sale, .string d.country, .string d.number, .string d.currency] _ _ h1)
  clear h0 h1
  unfold docVal docC
  go_enter Try.func43, Try.ntmps43
  go_wp2_with ((with_reducible refine wpList_store_row (o := ⟨none, _, _, _, _, _⟩) ?b1 70 (.tmp 2) (.tmp 11) ?b2 (w.heap.size + 1) #[.bool d.sale, .string d.country, .string d.number, .string d.currency] ?b3 ?b4 70 #[.bool false, .string ⟨#[]⟩, .string ⟨#[]⟩, .string ⟨#[]⟩] ?b7 ?b6 ?b5 ?b8 ?_); (case b1 => rfl); (case b2 => rfl); (case b3 => rfl); (case b4 => rfl); (case b7 => exact H1.out); (case b6 => exact deal_info); (case b5 => rfl); (case b8 => simp [Value.oneCell']); (try simp only [Act.put]); refine Stop.out ?_)
  unfold Stop
  have HB2 := Lib.hid (below_setRow (g := w.heap.size + 1) HB.out (Nat.le_succ _) #[.bool d.sale, .string d.country, .string d.number, .string d.currency])
  clear u0 u1 u2 u3 u4 u5 u6 u7 u8
  generalize World.setRow _ _ _ = w9 at HR HB2 ⊢
  go_wp2
  exact bodyPost_ret (results_cell_row Try.results43 _ _ (w.heap.size + 1) 70 #[.bool d.sale, .string d.country, .string d.number, .string d.currency] (0, 0) _ rfl HR.out Try.underlying70 rfl deal_info) rfl ⟨rfl, HB2.out⟩
end Go.Proofs.Ytjanhgekocpobaa
