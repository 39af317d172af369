/- Commands: fields that a kind names are what they may be: the program's. Documents: what may be: the program's. -/
import Derived.Test.YtjanhgekocpobaaDocN
import Derived.Test.YtjanhgekocpobaaDocM
import Derived.Test.YtjanhgekocpobaaRcCiv
import Derived.Test.YtjanhgekocpobaaRcB
import Derived.WalkMore
namespace Go.Proofs.Ytjanhgekocpobaa
open Go.RowKit
set_option maxRecDepth 100000
set_option linter.unusedSimpArgs false
set_option linter.unusedVariables false

theorem cells22 {W : World} {g : Nat} {v0 v1 v2 v3 v4 v5 v6 v7 v8 v9 v10 v11 v12 v13 v14 v15 v16 v17 v18 v19 v20 v21 : Value} {t : TypeId} (h : W.heap[g]? = some (.cells #[v0, v1, v2, v3, v4, v5, v6, v7, v8, v9, v10, v11, v12, v13, v14, v15, v16, v17, v18, v19, v20, v21] t (0, 0))) : W.cell? ⟨g, 0, none⟩ = some v0 ∧ W.cell? ⟨g, 1, none⟩ = some v1 ∧ W.cell? ⟨g, 2, none⟩ = some v2 ∧ W.cell? ⟨g, 3, none⟩ = some v3 ∧ W.cell? ⟨g, 4, none⟩ = some v4 ∧ W.cell? ⟨g, 5, none⟩ = some v5 ∧ W.cell? ⟨g, 6, none⟩ = some v6 ∧ W.cell? ⟨g, 7, none⟩ = some v7 ∧ W.cell? ⟨g, 8, none⟩ = some v8 ∧ W.cell? ⟨g, 9, none⟩ = some v9 ∧ W.cell? ⟨g, 10, none⟩ = some v10 ∧ W.cell? ⟨g, 11, none⟩ = some v11 ∧ W.cell? ⟨g, 12, none⟩ = some v12 ∧ W.cell? ⟨g, 13, none⟩ = some v13 ∧ W.cell? ⟨g, 14, none⟩ = some v14 ∧ W.cell? ⟨g, 15, none⟩ = some v15 ∧ W.cell? ⟨g, 16, none⟩ = some v16 ∧ W.cell? ⟨g, 17, none⟩ = some v17 ∧ W.cell? ⟨g, 18, none⟩ = some v18 ∧ W.cell? ⟨g, 19, none⟩ = some v19 ∧ W.cell? ⟨g, 20, none⟩ = some v20 ∧ W.cell? ⟨g, 21, none⟩ = some v21 :=
  ⟨cell_of_row W g 0 _ _ _ h, cell_of_row W g 1 _ _ _ h, cell_of_row W g 2 _ _ _ h, cell_of_row W g 3 _ _ _ h, cell_of_row W g 4 _ _ _ h, cell_of_row W g 5 _ _ _ h, cell_of_row W g 6 _ _ _ h, cell_of_row W g 7 _ _ _ h, cell_of_row W g 8 _ _ _ h, cell_of_row W g 9 _ _ _ h, cell_of_row W g 10 _ _ _ h, cell_of_row W g 11 _ _ _ h, cell_of_row W g 12 _ _ _ h, cell_of_row W g 13 _ _ _ h, cell_of_row W g 14 _ _ _ h, cell_of_row W g 15 _ _ _ h, cell_of_row W g 16 _ _ _ h, cell_of_row W g 17 _ _ _ h, cell_of_row W g 18 _ _ _ h, cell_of_row W g 19 _ _ _ h, cell_of_row W g 20 _ _ _ h, cell_of_row W g 21 _ _ _ h⟩
def perB (kind k y i : Int) : Bool := (k == kind) && Civ.good k y i
end Go.Proofs.Ytjanhgekocpobaa

namespace Go.Proofs.Ytjanhgekocpobaa
open Go.RowKit
set_option maxRecDepth 100000
set_option linter.unusedSimpArgs false
set_option linter.unusedVariables false

/-- may a document be, if its number, or its currency, may? -/
def docGood (d : DocV) (rB cB : Bool) : Bool := inB d.id.size 1 64 && decide (d.refers.size ≤ 64) && ((!d.refers.toList.isEmpty) == d.credit) && inB d.day 0 2932896 && placeB d.country && (d.number.toList.isEmpty || rB) && (d.currency.toList.isEmpty || cB) && inB d.lines.length 1 64 && !badAny d.lines d.sale
set_option maxHeartbeats 8000000 in
theorem goodDoc_bare (d : DocV) (V : Bool) (w : World) (hd : DocVOk w d) (hln : d.lines.length ≤ 140737488351232) (hn : d.number.toList.isEmpty = true) (hc : d.currency.toList.isEmpty = true) (hV : docGood d true true = V) : Calls Try.prog 23 #[.agg #[.string d.id, .bool d.sale, .bool d.credit, .string d.refers, .int .i64 d.day, .string d.country, .string d.number, .string d.currency, .slice d.linesA d.lines.length d.linesC]] w fun e w1 => e = .returned (.bool V) ∧ Below w.heap.size w w1 := by
  obtain ⟨hd1, hd2, hd3, hd4, hd5, hr, hA, hlc, hcm, hg⟩ := hd
  have HCo : Hid (∀ W : World, Calls Try.prog 36 #[.string d.country] W fun e w' => e = .returned (.bool (placeB d.country)) ∧ W = w') := Lib.hid (fun W => code_country d.country W (by omega))
  have HX := Lib.hid (And.intro (heap_alloc_new w (.cells #[.string d.id, .bool d.sale, .bool d.credit, .string d.refers, .int .i64 d.day, .string d.country, .string d.number, .string d.currency, .slice d.linesA d.lines.length d.linesC] 29)) (below_alloc w (.cells #[.string d.id, .bool d.sale, .bool d.credit, .string d.refers, .int .i64 d.day, .string d.country, .string d.number, .string d.currency, .slice d.linesA d.lines.length d.linesC] 29)))
  have HCt : Hid (∀ W, Below (w.alloc (.cells #[.string d.id, .bool d.sale, .bool d.credit, .string d.refers, .int .i64 d.day, .string d.country, .string d.number, .string d.currency, .slice d.linesA d.lines.length d.linesC] 29)).heap.size (w.alloc (.cells #[.string d.id, .bool d.sale, .bool d.credit, .string d.refers, .int .i64 d.day, .string d.country, .string d.number, .string d.currency, .slice d.linesA d.lines.length d.linesC] 29)) W → Calls Try.prog 39 #[.slice d.linesA d.lines.length d.linesC, .func (Fn.func 40) #[] #[.pointer (some ⟨w.heap.size, 0, none⟩)]] W fun e w1 => e = .returned (.bool (badAny d.lines d.sale)) ∧ Below W.heap.size W w1) := Lib.hid (fun W hb => code_containsLine d.linesA d.lines d.linesC w.heap.size d.sale W (hr.on (below_then (below_alloc w (.cells #[.string d.id, .bool d.sale, .bool d.credit, .string d.refers, .int .i64 d.day, .string d.country, .string d.number, .string d.currency, .slice d.linesA d.lines.length d.linesC] 29)) hb)) hlc hln hg (heapLt (heap_on hb (heap_alloc_new w (.cells #[.string d.id, .bool d.sale, .bool d.credit, .string d.refers, .int .i64 d.day, .string d.country, .string d.number, .string d.currency, .slice d.linesA d.lines.length d.linesC] 29)))) (cellsLineV (heap_on hb (heap_alloc_new w (.cells #[.string d.id, .bool d.sale, .bool d.credit, .string d.refers, .int .i64 d.day, .string d.country, .string d.number, .string d.currency, .slice d.linesA d.lines.length d.linesC] 29)))).2.1)
  have i1 : (d.id.size : Int) ≤ 140737488351232 := by omega
  have i2 : (d.refers.size : Int) ≤ 140737488351232 := by omega
  have i3 : (d.lines.length : Int) ≤ 140737488351232 := by omega
  unfold docGood at hV
  generalize placeB d.country = pB at HCo hV
  generalize badAny d.lines d.sale = bB at HCt hV
  have HV := Lib.hid hV
  clear hd1 hd2 hd3 hd4 hd5 hr hA hlc hcm hg hln hV
  go_enter Try.func23, Try.ntmps23
  go_wp2_with (first
    | (go_at_call 34; refine (code_isFrom _ _ _ _).mono ?_; rintro e w2 ⟨rfl, rfl⟩)
    | (go_at_call 35; refine (code_isDay _ _).mono ?_; rintro e w2 ⟨rfl, rfl⟩)
    | (go_at_call 36; refine (HCo.out _).mono ?_; rintro e w2 ⟨rfl, rfl⟩)
    | (go_at_call 39; refine (HCt.out _ (Below.refl _ _)).mono ?_; rintro e w2 ⟨rfl, hb⟩; have HB := Lib.hid (below_then HX.out.2 hb); clear hb))
  all_goals
    go_ret
    exact ⟨ret_bool (by rw [← HV.out]; clear HX; first | (simp_all; done) | (simp_all; intros; omega) | (simp_all; omega)), by first | exact HB.out | exact HX.out.2⟩
end Go.Proofs.Ytjanhgekocpobaa
