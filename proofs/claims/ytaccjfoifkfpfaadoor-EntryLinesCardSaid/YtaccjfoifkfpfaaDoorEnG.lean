/- A row as a text: walked. -/
import Derived.Test.YtaccjfoifkfpfaaDoorEnF
import Derived.Laws.Tables
import Derived.Laws.CopyOwn
namespace Go.Proofs.YtaccjfoifkfpfaaDoor
open Go.RowKit
set_option maxRecDepth 100000
set_option linter.unusedSimpArgs false
set_option linter.unusedVariables false

theorem wp_store_rowE {w : World} {o : Oper} {a : Act} {K : Act → World → Prop} {Q : Exit → Act → World → Prop} (T : TypeId) (x y : Operand) (ho : o.op = .store T x y) (g : Nat) (hx : a.eval x = .pointer (some ⟨g, 0, none⟩)) (vs : List Value)
    (hsz : (Tryd.prog.info? T).map (·.size) = some vs.length) (h1 : ∀ v ∈ vs, v.oneCell' = true) (hy : a.eval y = .agg vs.toArray) (cur : Array Value) (hc : cur.size = vs.length) (t : TypeId) (hg : w.heap[g]? = some (.cells cur t (0, 0)))
    (h : K (a.put o.dst undef) (w.setRow g vs.toArray)) : o.wp Tryd.prog a w K Q := by
  have hst := run_storeCells_at Tryd.prog g 0 t vs 0 cur w hg (by omega) h1
  have e : (cur.toList.take (0 + 0) ++ vs ++ cur.toList.drop (0 + 0 + vs.length)) = vs := by
    rw [List.drop_eq_nil_of_le (by simp [hc])]; simp
  rw [e] at hst
  have hs : (sizeOf T).run Tryd.prog w = .ok vs.length w := by
    cases hq : Tryd.prog.info? T with
    | none => simp [hq] at hsz
    | some i =>
      have hz : i.size = vs.length := by simpa [hq] using hsz
      simp [sizeOf, typeInfo, hq, hz]
  unfold Oper.wp execOp
  simp only [ho, hx, hy, Instr.storeAt, Instr.sureAddr, Sem.run_bind, Sem.run_pure, Result.andThen_ok, storeVar, Value.cells, hs, List.size_toArray, ne_eq, not_true_eq_false, if_false, hst]
  exact h
theorem wpList_store_rowE {w : World} {ops : Array Oper} {rest : List Oper} {o : Oper} {a : Act} {Q : Exit → Act → World → Prop} (T : TypeId) (hgd : o.guard = none) (x y : Operand) (ho : o.op = .store T x y) (g : Nat) (hx : a.eval x = .pointer (some ⟨g, 0, none⟩)) (vs : List Value)
    (hsz : (Tryd.prog.info? T).map (·.size) = some vs.length) (h1 : ∀ v ∈ vs, v.oneCell' = true) (hy : a.eval y = .agg vs.toArray) (cur : Array Value) (hc : cur.size = vs.length) (t : TypeId) (hg : w.heap[g]? = some (.cells cur t (0, 0)))
    (h : wpList Tryd.prog ops Q rest (a.put o.dst undef) (w.setRow g vs.toArray)) : wpList Tryd.prog ops Q (o :: rest) a w :=
  wpList_plain hgd fun _ hK => wp_store_rowE T x y ho g hx vs hsz h1 hy cur hc t hg (hK _ _ h)
theorem oneCol (s : ByteArray) (f : FuncId) : ∀ v ∈ [Value.string s, Value.func (Fn.func f) #[] #[]], v.oneCell' = true := by
  intro v hv
  simp only [List.mem_cons, List.not_mem_nil, or_false] at hv
  rcases hv with rfl | rfl <;> rfl
theorem cellsRow {W : World} {g : Nat} {x : RowV} (h : W.heap[g]? = some (.cells (rowA x) 25 (0, 0))) : W.cell? ⟨g, 0, none⟩ = some (.int .i64 x.pk) ∧ W.cell? ⟨g, 1, none⟩ = some (.int .i64 x.py) ∧ W.cell? ⟨g, 2, none⟩ = some (.int .i64 x.pi) ∧ W.cell? ⟨g, 3, none⟩ = some (.int .i64 x.gk) ∧ W.cell? ⟨g, 4, none⟩ = some (.int .i64 x.gy) ∧ W.cell? ⟨g, 5, none⟩ = some (.int .i64 x.gi) ∧ W.cell? ⟨g, 6, none⟩ = some (.string x.doc) ∧ W.cell? ⟨g, 7, none⟩ = some (.bool x.sale) ∧ W.cell? ⟨g, 8, none⟩ = some (.int .i64 x.supply) ∧ W.cell? ⟨g, 9, none⟩ = some (.int .i64 x.treat) ∧ W.cell? ⟨g, 10, none⟩ = some (.int .i64 x.rate) ∧ W.cell? ⟨g, 11, none⟩ = some (.string x.state) ∧ W.cell? ⟨g, 12, none⟩ = some (.string x.party) ∧ W.cell? ⟨g, 13, none⟩ = some (.int .i64 x.base) ∧ W.cell? ⟨g, 14, none⟩ = some (.int .i64 x.tax) ∧ W.cell? ⟨g, 15, none⟩ = some (.int .i64 x.deduct) ∧ W.cell? ⟨g, 16, none⟩ = some (.bool x.mixed) :=
  ⟨(cell_of_row W g 0 _ _ _ h).trans rfl, (cell_of_row W g 1 _ _ _ h).trans rfl, (cell_of_row W g 2 _ _ _ h).trans rfl, (cell_of_row W g 3 _ _ _ h).trans rfl, (cell_of_row W g 4 _ _ _ h).trans rfl, (cell_of_row W g 5 _ _ _ h).trans rfl, (cell_of_row W g 6 _ _ _ h).trans rfl, (cell_of_row W g 7 _ _ _ h).trans rfl, (cell_of_row W g 8 _ _ _ h).trans rfl, (cell_of_row W g 9 _ _ _ h).trans rfl, (cell_of_row W g 10 _ _ _ h).trans rfl, (cell_of_row W g 11 _ _ _ h).trans rfl, (cell_of_row W g 12 _ _ _ h).trans rfl, (cell_of_row W g 13 _ _ _ h).trans rfl, (cell_of_row W g 14 _ _ _ h).trans rfl, (cell_of_row W g 15 _ _ _ h).trans rfl, (cell_of_row W g 16 _ _ _ h).trans rfl⟩
abbrev colsA : Array Value := #[.string ⟨#[114, 97, 116, 101]⟩, .func (.func 10) #[] #[], .string ⟨#[98, 97, 115, 101]⟩, .func (.func 8) #[] #[], .string ⟨#[116, 97, 120]⟩, .func (.func 8) #[] #[], .string ⟨#[111, 117, 116]⟩, .func (.func 8) #[] #[], .string ⟨#[105, 110]⟩, .func (.func 8) #[] #[]]
theorem col_0 (x : RowV) (w : World) : Calls Tryd.prog 10 #[.agg (rowA x), .string ⟨#[114, 97, 116, 101]⟩] w fun e w1 => e = .returned (.tuple #[.int .i64 (colV x 0), .bool true]) ∧ Below w.heap.size w w1 := by
  have h := code_tag x ⟨#[114, 97, 116, 101]⟩ w
  have e : tagX x ⟨#[114, 97, 116, 101]⟩ = (colV x 0, true) := by unfold tagX; rw [if_neg (by decide), if_pos rfl]; rfl
  rw [e] at h
  exact h
theorem col_1 (x : RowV) (w : World) : Calls Tryd.prog 8 #[.agg (rowA x), .string ⟨#[98, 97, 115, 101]⟩] w fun e w1 => e = .returned (.tuple #[.int .i64 (colV x 1), .bool true]) ∧ Below w.heap.size w w1 := by
  have h := code_field x ⟨#[98, 97, 115, 101]⟩ w
  have e : fieldX x ⟨#[98, 97, 115, 101]⟩ = (colV x 1, true) := by unfold fieldX; rw [if_pos rfl]; rfl
  rw [e] at h
  exact h
theorem col_2 (x : RowV) (w : World) : Calls Tryd.prog 8 #[.agg (rowA x), .string ⟨#[116, 97, 120]⟩] w fun e w1 => e = .returned (.tuple #[.int .i64 (colV x 2), .bool true]) ∧ Below w.heap.size w w1 := by
  have h := code_field x ⟨#[116, 97, 120]⟩ w
  have e : fieldX x ⟨#[116, 97, 120]⟩ = (colV x 2, true) := by unfold fieldX; rw [if_neg (by decide), if_pos rfl]; rfl
  rw [e] at h
  exact h
theorem col_3 (x : RowV) (w : World) : Calls Tryd.prog 8 #[.agg (rowA x), .string ⟨#[111, 117, 116]⟩] w fun e w1 => e = .returned (.tuple #[.int .i64 (colV x 3), .bool true]) ∧ Below w.heap.size w w1 := by
  have h := code_field x ⟨#[111, 117, 116]⟩ w
  have e : fieldX x ⟨#[111, 117, 116]⟩ = (colV x 3, true) := by unfold fieldX; rw [if_neg (by decide), if_neg (by decide), if_pos rfl]; rfl
  rw [e] at h
  exact h
theorem col_4 (x : RowV) (w : World) : Calls Tryd.prog 8 #[.agg (rowA x), .string ⟨#[105, 110]⟩] w fun e w1 => e = .returned (.tuple #[.int .i64 (colV x 4), .bool true]) ∧ Below w.heap.size w w1 := by
  have h := code_field x ⟨#[105, 110]⟩ w
  have e : fieldX x ⟨#[105, 110]⟩ = (colV x 4, true) := by unfold fieldX; rw [if_neg (by decide), if_neg (by decide), if_neg (by decide), if_pos rfl]; rfl
  rw [e] at h
  exact h
/-- on the way through the columns -/
structure LineI (w : World) (x : RowV) (R : Array Value) (b g k : Nat) (V : World) : Prop where
  row : V.heap[w.heap.size]? = some (.cells R 25 (0, 0))
  text : V.heap[b]? = some (.cells #[.string (accV x k)] 9 (0, 0))
  cols : V.heap[g]? = some (.cells colsA 45 (0, 0))
  tab : TabW V
  low : Below w.heap.size w V
theorem LineI.below {w : World} {x : RowV} {R : Array Value} {b g k : Nat} {V V' : World} (h : LineI w x R b g k V) (hb : Below V.heap.size V V') : LineI w x R b g k V' :=
  ⟨heap_on hb h.row, heap_on hb h.text, heap_on hb h.cols, h.tab.below hb, below_then h.low hb⟩
theorem itoa_1000 {n : Int} (h : -9223372036854775808 ≤ n ∧ n ≤ 9223372036854775807) : (itoaS n).size ≤ 1000 := by
  have h1 := Lib.itoa_length_le n h.1 h.2
  have h2 : (itoaS n).size = (Lib.itoa n).length := by unfold itoaS; simp [ByteArray.size]
  omega
theorem LineI.wrote {w : World} {x : RowV} {R : Array Value} {b g k : Nat} {V : World} (h : LineI w x R b g k V) (h1 : w.heap.size < b) (h2 : b < g) (h3 : TabW w) : LineI w x R b g (k + 1) (V.setCell ⟨b, 0, none⟩ (.string (cat (accV x k) (itoaS (colV x k))))) :=
  ⟨(heap_setCell_other _ _ _ _ (Nat.ne_of_lt h1)).trans h.row, heap_setCell_same V b 0 _ _ _ h.text, (heap_setCell_other _ _ _ _ (Nat.ne_of_gt h2)).trans h.cols, h3.below (h.low.setCell (p := ⟨b, 0, none⟩) (Nat.le_of_lt h1) _), h.low.setCell (p := ⟨b, 0, none⟩) (Nat.le_of_lt h1) _⟩
set_option maxHeartbeats 4000000 in
theorem code_lineR (x : RowV) (R : Array Value) (hR : R = rowA x) (w : World) (hB : RowB x) (hT : TabW w) : Calls Tryd.prog 19 #[.agg R] w fun e w' => e = .returned (.string (lineV x)) ∧ Below w.heap.size w w' := by
  have HBx := Lib.hid hB
  have HT := Lib.hid hT
  have HSz := Lib.hid (acc_size x hB)
  have HNm := Lib.hid (code_name x.treat)
  have HSd : Hid (∀ W, Calls Tryd.prog 30 #[.bool x.sale] W fun e w1 => e = .returned (.string (sideS x.sale)) ∧ W = w1) := Lib.hid (code_side x.sale)
  have HLt : Hid (∀ W, Calls Tryd.prog 12 #[.agg R] W fun e w1 => e = .returned (.bool (lateB x)) ∧ Below W.heap.size W w1) := Lib.hid (by rw [hR]; exact code_late x)
  have HC0 : Hid (∀ W, Calls Tryd.prog 10 #[.agg R, .string ⟨#[114, 97, 116, 101]⟩] W fun e w1 => e = .returned (.tuple #[.int .i64 (colV x 0), .bool true]) ∧ Below W.heap.size W w1) := Lib.hid (by rw [hR]; exact col_0 x)
  have HC1 : Hid (∀ W, Calls Tryd.prog 8 #[.agg R, .string ⟨#[98, 97, 115, 101]⟩] W fun e w1 => e = .returned (.tuple #[.int .i64 (colV x 1), .bool true]) ∧ Below W.heap.size W w1) := Lib.hid (by rw [hR]; exact col_1 x)
  have HC2 : Hid (∀ W, Calls Tryd.prog 8 #[.agg R, .string ⟨#[116, 97, 120]⟩] W fun e w1 => e = .returned (.tuple #[.int .i64 (colV x 2), .bool true]) ∧ Below W.heap.size W w1) := Lib.hid (by rw [hR]; exact col_2 x)
  have HC3 : Hid (∀ W, Calls Tryd.prog 8 #[.agg R, .string ⟨#[111, 117, 116]⟩] W fun e w1 => e = .returned (.tuple #[.int .i64 (colV x 3), .bool true]) ∧ Below W.heap.size W w1) := Lib.hid (by rw [hR]; exact col_3 x)
  have HC4 : Hid (∀ W, Calls Tryd.prog 8 #[.agg R, .string ⟨#[105, 110]⟩] W fun e w1 => e = .returned (.tuple #[.int .i64 (colV x 4), .bool true]) ∧ Below W.heap.size W w1) := Lib.hid (by rw [hR]; exact col_4 x)
  have HIn : Hid ((Tryd.prog.info? 25).map (·.size) = some R.size) := Lib.hid (by rw [hR]; kernel_rfl)
  have h9 : R[9]? = some (.int .i64 x.treat) := by rw [hR]; rfl
  have h7 : R[7]? = some (.bool x.sale) := by rw [hR]; rfl
  have z9 : (w.alloc (.cells R 25)).cell? ⟨w.heap.size, 9, none⟩ = some (.int .i64 x.treat) := (cell_of_row _ _ 9 _ _ _ (heap_alloc_new w _)).trans h9
  have H7 := Lib.hid h7
  clear hR h9 h7
  clear hB hT
  go_enter Tryd.func19, Tryd.ntmps19
  go_wp2_with (first
    | (go_at_call 28; refine (HNm.out _).mono ?_; rintro e w1 ⟨rfl, hb1⟩; have HR1 : Hid (w1.heap[w.heap.size]? = some (.cells R 25 (0, 0))) := Lib.hid (heap_on hb1 (heap_alloc_new w _)); have HB1 : Hid (Below w.heap.size w w1) := Lib.hid (below_then (below_alloc _ _) hb1); clear hb1; refine Stop.out ?_))
  unfold Stop
  have z7 := (cell_of_row _ w.heap.size 7 _ _ _ (heap_on (below_alloc w1 (.cells #[.string (nameV x.treat)] 9)) HR1.out)).trans H7.out
  clear z9
  obtain ⟨w2, hw2⟩ : ∃ w2, w2 = w1.alloc (.cells #[.string (nameV x.treat)] 9) := ⟨_, rfl⟩
  have HX2 : Hid (w2.heap[w1.heap.size]? = some (.cells #[.string (nameV x.treat)] 9 (0, 0))) := Lib.hid (by rw [hw2]; exact heap_alloc_new w1 _)
  have HR2 : Hid (w2.heap[w.heap.size]? = some (.cells R 25 (0, 0))) := Lib.hid (by rw [hw2]; exact heap_on (below_alloc w1 _) HR1.out)
  have HB2 : Hid (Below w.heap.size w w2) := Lib.hid (by rw [hw2]; exact below_then HB1.out (below_alloc w1 _))
  have HLb : Hid (w.heap.size < w1.heap.size) := Lib.hid (heapLt HR1.out)
  have HWr : Hid (∀ V, V = w2 → Calls Tryd.prog 29 #[.string (sideS x.sale), .pointer (some ⟨w1.heap.size, 0, none⟩)] V fun e w' => e = .returned (.tuple #[]) ∧ w' = w2.setCell ⟨w1.heap.size, 0, none⟩ (.string (accV x 0))) := Lib.hid (fun V hV => by
    rw [hV]
    exact code_write (sideS x.sale) (nameV x.treat) w1.heap.size w2 HX2.out (by unfold sideS; split <;> decide) (Nat.le_trans (name_size _) (by decide)))
  have HW2 := Lib.hid hw2
  clear hw2
  go_wp2_with (first
    | (go_at_call 30; refine (HSd.out _).mono ?_; rintro e w3 ⟨rfl, rfl⟩)
    | (go_at_call 29; refine (HWr.out _ HW2.out.symm).mono ?_; rintro e w3 ⟨rfl, hw3⟩; have HW3 := Lib.hid hw3; clear hw3; refine Stop.out ?_))
  unfold Stop
  have HB3 : Hid (Below w.heap.size w w3) := Lib.hid (by rw [HW3.out]; exact HB2.out.setCell (p := ⟨w1.heap.size, 0, none⟩) (Nat.le_of_lt HLb.out) _)
  have HX3 : Hid (w3.heap[w1.heap.size]? = some (.cells #[.string (accV x 0)] 9 (0, 0))) := Lib.hid (by rw [HW3.out]; exact heap_setCell_same w2 _ 0 _ _ _ HX2.out)
  have HR3 : Hid (w3.heap[w.heap.size]? = some (.cells R 25 (0, 0))) := Lib.hid (by rw [HW3.out]; exact (heap_setCell_other _ _ _ _ (Nat.ne_of_lt HLb.out)).trans HR2.out)
  clear HW3 HW2 HWr HX2 HR2 HB2 z7 HR1
  go_wp2_with (first
    | (go_at_call 31; refine (code_columns _).mono ?_; rintro e w4 ⟨g, rfl, hc4, hg4, hb4⟩; have HI4 : Hid (LineI w x R w1.heap.size g 0 w4) := Lib.hid ⟨heap_on hb4 HR3.out, heap_on hb4 HX3.out, hc4, (HT.out.below HB3.out).below hb4, below_then HB3.out hb4⟩; have HGb : Hid (w1.heap.size < g) := Lib.hid (Nat.lt_of_lt_of_le (heapLt HX3.out) hg4); clear hc4 hg4 hb4; refine Stop.out ?_))
  unfold Stop
  obtain ⟨b, hb⟩ : ∃ b, b = w1.heap.size := ⟨_, rfl⟩
  have HBb : Hid (w.heap.size < b ∧ b < g) := Lib.hid (by rw [hb]; exact ⟨HLb.out, HGb.out⟩)
  rw [← hb] at HI4 ⊢
  clear hb HB3 HX3 HR3 HGb HLb HB1
  go_wp2
  go_loopw [6, 7, 8, 20] (fun v6 v7 v8 i wr => ∃ k : Nat, k ≤ 5 ∧ i = .int .i64 (k : Nat) ∧ Hid (LineI w x R b g k wr)) (fun _ _ _ i _ => 5 - (intOf i).toNat)
  case atStart => exact ⟨0, by decide, rfl, HI4⟩
  case round =>
    obtain ⟨k, hk, rfl, HI⟩ := hrel
    clear HI4
    rcases (show k = 0 ∨ k = 1 ∨ k = 2 ∨ k = 3 ∨ k = 4 ∨ k = 5 by omega) with rfl | rfl | rfl | rfl | rfl | rfl
    · have d0 := (cell_of_row wr g 0 _ _ _ HI.out.cols).trans rfl
      have d1 := (cell_of_row wr g 1 _ _ _ HI.out.cols).trans rfl
      go_wp2_with (first
        | ((with_reducible refine wpList_store_rowE 45 (o := ⟨none, _, _, _, _, _⟩) ?a1 (.tmp 6) (.tmp 23) ?a2 wr.heap.size ?a3 [.string ⟨#[114, 97, 116, 101]⟩, .func (.func 10) #[] #[]] ?a4 ?a5 ?a6 _ ?a7 45 (heap_alloc_new wr _) ?_); (case a1 => rfl); (case a2 => rfl); (case a3 => rfl); (case a4 => kernel_rfl); (case a5 => exact oneCol _ _); (case a6 => rfl); (case a7 => rfl); (try simp only [Act.put]); refine Stop.out ?_))
      unfold Stop
      obtain ⟨wS, hwS⟩ : ∃ wS, wS = (wr.alloc (.cells #[.string ⟨#[]⟩, .nilFunc] 45)).setRow wr.heap.size #[.string ⟨#[114, 97, 116, 101]⟩, .func (.func 10) #[] #[]] := ⟨_, rfl⟩
      have HIS : Hid (LineI w x R b g 0 wS) := Lib.hid (by rw [hwS]; exact HI.out.below (below_setRow (below_alloc wr _) (Nat.le_refl _) _))
      have HFS : Hid (wS.heap[wr.heap.size]? = some (.cells #[.string ⟨#[114, 97, 116, 101]⟩, .func (.func 10) #[] #[]] 45 (0, 0))) := Lib.hid (by rw [hwS]; exact setRow_heap _ _ _ _ _ _ (heap_alloc_new wr _))
      rw [show ((wr.alloc (.cells #[.string ⟨#[]⟩, .nilFunc] 45)).setRow wr.heap.size [.string ⟨#[114, 97, 116, 101]⟩, .func (.func 10) #[] #[]].toArray) = wS from hwS.symm]
      clear hwS d0 d1
      have f0 := (cell_of_row wS wr.heap.size 0 _ _ _ HFS.out).trans rfl
      have f1 := (cell_of_row wS wr.heap.size 1 _ _ _ HFS.out).trans rfl
      go_wp2_with ((with_reducible refine wpList_load_row (o := ⟨some 27, _, _, _, _, _⟩) ?a1 25 (.tmp 1) ?a2 w.heap.size ?a3 25 R (0, 0) _ HIS.out.row Tryd.underlying25 ?a4 HIn.out ?_); (case a1 => rfl); (case a2 => rfl); (case a3 => rfl); (case a4 => rfl); refine Stop.out ?_)
      unfold Stop
      go_wp2_with (first
        | (go_at_call 10; refine (HC0.out _).mono ?_; rintro e w5 ⟨rfl, hb5⟩; have HI5 := Lib.hid (HIS.out.below hb5); clear hb5; refine Stop.out ?_))
      unfold Stop
      clear f0 f1
      go_wp2_with (first
        | (go_at_call 32; refine (code_itoa (colV x 0) (HBx.out 0).1 (HBx.out 0).2 _ HI5.out.tab).mono ?_; rintro e w6 ⟨rfl, hb6⟩; have HI6 := Lib.hid (HI5.out.below hb6); clear hb6; refine Stop.out ?_))
      unfold Stop
      go_wp2_with (first
        | (go_at_call 29; refine (code_write (itoaS (colV x 0)) (accV x 0) b _ HI6.out.text (itoa_1000 (HBx.out 0)) (Nat.le_trans (HSz.out 0) (by decide))).mono ?_; rintro e w7 ⟨rfl, hw7⟩; have HI7 : Hid (LineI w x R b g 1 w7) := Lib.hid (by rw [hw7]; exact HI6.out.wrote HBb.out.1 HBb.out.2 HT.out); clear hw7; refine Stop.out ?_))
      unfold Stop
      go_wp2
      go_roundw
      case rel => exact ⟨1, by decide, rfl, HI7⟩
      case measure => decide
    · have d0 := (cell_of_row wr g 2 _ _ _ HI.out.cols).trans rfl
      have d1 := (cell_of_row wr g 3 _ _ _ HI.out.cols).trans rfl
      go_wp2_with (first
        | ((with_reducible refine wpList_store_rowE 45 (o := ⟨none, _, _, _, _, _⟩) ?a1 (.tmp 6) (.tmp 23) ?a2 wr.heap.size ?a3 [.string ⟨#[98, 97, 115, 101]⟩, .func (.func 8) #[] #[]] ?a4 ?a5 ?a6 _ ?a7 45 (heap_alloc_new wr _) ?_); (case a1 => rfl); (case a2 => rfl); (case a3 => rfl); (case a4 => kernel_rfl); (case a5 => exact oneCol _ _); (case a6 => rfl); (case a7 => rfl); (try simp only [Act.put]); refine Stop.out ?_))
      unfold Stop
      obtain ⟨wS, hwS⟩ : ∃ wS, wS = (wr.alloc (.cells #[.string ⟨#[]⟩, .nilFunc] 45)).setRow wr.heap.size #[.string ⟨#[98, 97, 115, 101]⟩, .func (.func 8) #[] #[]] := ⟨_, rfl⟩
      have HIS : Hid (LineI w x R b g 1 wS) := Lib.hid (by rw [hwS]; exact HI.out.below (below_setRow (below_alloc wr _) (Nat.le_refl _) _))
      have HFS : Hid (wS.heap[wr.heap.size]? = some (.cells #[.string ⟨#[98, 97, 115, 101]⟩, .func (.func 8) #[] #[]] 45 (0, 0))) := Lib.hid (by rw [hwS]; exact setRow_heap _ _ _ _ _ _ (heap_alloc_new wr _))
      rw [show ((wr.alloc (.cells #[.string ⟨#[]⟩, .nilFunc] 45)).setRow wr.heap.size [.string ⟨#[98, 97, 115, 101]⟩, .func (.func 8) #[] #[]].toArray) = wS from hwS.symm]
      clear hwS d0 d1
      have f0 := (cell_of_row wS wr.heap.size 0 _ _ _ HFS.out).trans rfl
      have f1 := (cell_of_row wS wr.heap.size 1 _ _ _ HFS.out).trans rfl
      go_wp2_with ((with_reducible refine wpList_load_row (o := ⟨some 27, _, _, _, _, _⟩) ?a1 25 (.tmp 1) ?a2 w.heap.size ?a3 25 R (0, 0) _ HIS.out.row Tryd.underlying25 ?a4 HIn.out ?_); (case a1 => rfl); (case a2 => rfl); (case a3 => rfl); (case a4 => rfl); refine Stop.out ?_)
      unfold Stop
      go_wp2_with (first
        | (go_at_call 8; refine (HC1.out _).mono ?_; rintro e w5 ⟨rfl, hb5⟩; have HI5 := Lib.hid (HIS.out.below hb5); clear hb5; refine Stop.out ?_))
      unfold Stop
      clear f0 f1
      go_wp2_with (first
        | (go_at_call 32; refine (code_itoa (colV x 1) (HBx.out 1).1 (HBx.out 1).2 _ HI5.out.tab).mono ?_; rintro e w6 ⟨rfl, hb6⟩; have HI6 := Lib.hid (HI5.out.below hb6); clear hb6; refine Stop.out ?_))
      unfold Stop
      go_wp2_with (first
        | (go_at_call 29; refine (code_write (itoaS (colV x 1)) (accV x 1) b _ HI6.out.text (itoa_1000 (HBx.out 1)) (Nat.le_trans (HSz.out 1) (by decide))).mono ?_; rintro e w7 ⟨rfl, hw7⟩; have HI7 : Hid (LineI w x R b g 2 w7) := Lib.hid (by rw [hw7]; exact HI6.out.wrote HBb.out.1 HBb.out.2 HT.out); clear hw7; refine Stop.out ?_))
      unfold Stop
      go_wp2
      go_roundw
      case rel => exact ⟨2, by decide, rfl, HI7⟩
      case measure => decide
    · have d0 := (cell_of_row wr g 4 _ _ _ HI.out.cols).trans rfl
      have d1 := (cell_of_row wr g 5 _ _ _ HI.out.cols).trans rfl
      go_wp2_with (first
        | ((with_reducible refine wpList_store_rowE 45 (o := ⟨none, _, _, _, _, _⟩) ?a1 (.tmp 6) (.tmp 23) ?a2 wr.heap.size ?a3 [.string ⟨#[116, 97, 120]⟩, .func (.func 8) #[] #[]] ?a4 ?a5 ?a6 _ ?a7 45 (heap_alloc_new wr _) ?_); (case a1 => rfl); (case a2 => rfl); (case a3 => rfl); (case a4 => kernel_rfl); (case a5 => exact oneCol _ _); (case a6 => rfl); (case a7 => rfl); (try simp only [Act.put]); refine Stop.out ?_))
      unfold Stop
      obtain ⟨wS, hwS⟩ : ∃ wS, wS = (wr.alloc (.cells #[.string ⟨#[]⟩, .nilFunc] 45)).setRow wr.heap.size #[.string ⟨#[116, 97, 120]⟩, .func (.func 8) #[] #[]] := ⟨_, rfl⟩
      have HIS : Hid (LineI w x R b g 2 wS) := Lib.hid (by rw [hwS]; exact HI.out.below (below_setRow (below_alloc wr _) (Nat.le_refl _) _))
      have HFS : Hid (wS.heap[wr.heap.size]? = some (.cells #[.string ⟨#[116, 97, 120]⟩, .func (.func 8) #[] #[]] 45 (0, 0))) := Lib.hid (by rw [hwS]; exact setRow_heap _ _ _ _ _ _ (heap_alloc_new wr _))
      rw [show ((wr.alloc (.cells #[.string ⟨#[]⟩, .nilFunc] 45)).setRow wr.heap.size [.string ⟨#[116, 97, 120]⟩, .func (.func 8) #[] #[]].toArray) = wS from hwS.symm]
      clear hwS d0 d1
      have f0 := (cell_of_row wS wr.heap.size 0 _ _ _ HFS.out).trans rfl
      have f1 := (cell_of_row wS wr.heap.size 1 _ _ _ HFS.out).trans rfl
      go_wp2_with ((with_reducible refine wpList_load_row (o := ⟨some 27, _, _, _, _, _⟩) ?a1 25 (.tmp 1) ?a2 w.heap.size ?a3 25 R (0, 0) _ HIS.out.row Tryd.underlying25 ?a4 HIn.out ?_); (case a1 => rfl); (case a2 => rfl); (case a3 => rfl); (case a4 => rfl); refine Stop.out ?_)
      unfold Stop
      go_wp2_with (first
        | (go_at_call 8; refine (HC2.out _).mono ?_; rintro e w5 ⟨rfl, hb5⟩; have HI5 := Lib.hid (HIS.out.below hb5); clear hb5; refine Stop.out ?_))
      unfold Stop
      clear f0 f1
      go_wp2_with (first
        | (go_at_call 32; refine (code_itoa (colV x 2) (HBx.out 2).1 (HBx.out 2).2 _ HI5.out.tab).mono ?_; rintro e w6 ⟨rfl, hb6⟩; have HI6 := Lib.hid (HI5.out.below hb6); clear hb6; refine Stop.out ?_))
      unfold Stop
      go_wp2_with (first
        | (go_at_call 29; refine (code_write (itoaS (colV x 2)) (accV x 2) b _ HI6.out.text (itoa_1000 (HBx.out 2)) (Nat.le_trans (HSz.out 2) (by decide))).mono ?_; rintro e w7 ⟨rfl, hw7⟩; have HI7 : Hid (LineI w x R b g 3 w7) := Lib.hid (by rw [hw7]; exact HI6.out.wrote HBb.out.1 HBb.out.2 HT.out); clear hw7; refine Stop.out ?_))
      unfold Stop
      go_wp2
      go_roundw
      case rel => exact ⟨3, by decide, rfl, HI7⟩
      case measure => decide
    · have d0 := (cell_of_row wr g 6 _ _ _ HI.out.cols).trans rfl
      have d1 := (cell_of_row wr g 7 _ _ _ HI.out.cols).trans rfl
      go_wp2_with (first
        | ((with_reducible refine wpList_store_rowE 45 (o := ⟨none, _, _, _, _, _⟩) ?a1 (.tmp 6) (.tmp 23) ?a2 wr.heap.size ?a3 [.string ⟨#[111, 117, 116]⟩, .func (.func 8) #[] #[]] ?a4 ?a5 ?a6 _ ?a7 45 (heap_alloc_new wr _) ?_); (case a1 => rfl); (case a2 => rfl); (case a3 => rfl); (case a4 => kernel_rfl); (case a5 => exact oneCol _ _); (case a6 => rfl); (case a7 => rfl); (try simp only [Act.put]); refine Stop.out ?_))
      unfold Stop
      obtain ⟨wS, hwS⟩ : ∃ wS, wS = (wr.alloc (.cells #[.string ⟨#[]⟩, .nilFunc] 45)).setRow wr.heap.size #[.string ⟨#[111, 117, 116]⟩, .func (.func 8) #[] #[]] := ⟨_, rfl⟩
      have HIS : Hid (LineI w x R b g 3 wS) := Lib.hid (by rw [hwS]; exact HI.out.below (below_setRow (below_alloc wr _) (Nat.le_refl _) _))
      have HFS : Hid (wS.heap[wr.heap.size]? = some (.cells #[.string ⟨#[111, 117, 116]⟩, .func (.func 8) #[] #[]] 45 (0, 0))) := Lib.hid (by rw [hwS]; exact setRow_heap _ _ _ _ _ _ (heap_alloc_new wr _))
      rw [show ((wr.alloc (.cells #[.string ⟨#[]⟩, .nilFunc] 45)).setRow wr.heap.size [.string ⟨#[111, 117, 116]⟩, .func (.func 8) #[] #[]].toArray) = wS from hwS.symm]
      clear hwS d0 d1
      have f0 := (cell_of_row wS wr.heap.size 0 _ _ _ HFS.out).trans rfl
      have f1 := (cell_of_row wS wr.heap.size 1 _ _ _ HFS.out).trans rfl
      go_wp2_with ((with_reducible refine wpList_load_row (o := ⟨some 27, _, _, _, _, _⟩) ?a1 25 (.tmp 1) ?a2 w.heap.size ?a3 25 R (0, 0) _ HIS.out.row Tryd.underlying25 ?a4 HIn.out ?_); (case a1 => rfl); (case a2 => rfl); (case a3 => rfl); (case a4 => rfl); refine Stop.out ?_)
      unfold Stop
      go_wp2_with (first
        | (go_at_call 8; refine (HC3.out _).mono ?_; rintro e w5 ⟨rfl, hb5⟩; have HI5 := Lib.hid (HIS.out.below hb5); clear hb5; refine Stop.out ?_))
      unfold Stop
      clear f0 f1
      go_wp2_with (first
        | (go_at_call 32; refine (code_itoa (colV x 3) (HBx.out 3).1 (HBx.out 3).2 _ HI5.out.tab).mono ?_; rintro e w6 ⟨rfl, hb6⟩; have HI6 := Lib.hid (HI5.out.below hb6); clear hb6; refine Stop.out ?_))
      unfold Stop
      go_wp2_with (first
        | (go_at_call 29; refine (code_write (itoaS (colV x 3)) (accV x 3) b _ HI6.out.text (itoa_1000 (HBx.out 3)) (Nat.le_trans (HSz.out 3) (by decide))).mono ?_; rintro e w7 ⟨rfl, hw7⟩; have HI7 : Hid (LineI w x R b g 4 w7) := Lib.hid (by rw [hw7]; exact HI6.out.wrote HBb.out.1 HBb.out.2 HT.out); clear hw7; refine Stop.out ?_))
      unfold Stop
      go_wp2
      go_roundw
      case rel => exact ⟨4, by decide, rfl, HI7⟩
      case measure => decide
    · have d0 := (cell_of_row wr g 8 _ _ _ HI.out.cols).trans rfl
      have d1 := (cell_of_row wr g 9 _ _ _ HI.out.cols).trans rfl
      go_wp2_with (first
        | ((with_reducible refine wpList_store_rowE 45 (o := ⟨none, _, _, _, _, _⟩) ?a1 (.tmp 6) (.tmp 23) ?a2 wr.heap.size ?a3 [.string ⟨#[105, 110]⟩, .func (.func 8) #[] #[]] ?a4 ?a5 ?a6 _ ?a7 45 (heap_alloc_new wr _) ?_); (case a1 => rfl); (case a2 => rfl); (case a3 => rfl); (case a4 => kernel_rfl); (case a5 => exact oneCol _ _); (case a6 => rfl); (case a7 => rfl); (try simp only [Act.put]); refine Stop.out ?_))
      unfold Stop
      obtain ⟨wS, hwS⟩ : ∃ wS, wS = (wr.alloc (.cells #[.string ⟨#[]⟩, .nilFunc] 45)).setRow wr.heap.size #[.string ⟨#[105, 110]⟩, .func (.func 8) #[] #[]] := ⟨_, rfl⟩
      have HIS : Hid (LineI w x R b g 4 wS) := Lib.hid (by rw [hwS]; exact HI.out.below (below_setRow (below_alloc wr _) (Nat.le_refl _) _))
      have HFS : Hid (wS.heap[wr.heap.size]? = some (.cells #[.string ⟨#[105, 110]⟩, .func (.func 8) #[] #[]] 45 (0, 0))) := Lib.hid (by rw [hwS]; exact setRow_heap _ _ _ _ _ _ (heap_alloc_new wr _))
      rw [show ((wr.alloc (.cells #[.string ⟨#[]⟩, .nilFunc] 45)).setRow wr.heap.size [.string ⟨#[105, 110]⟩, .func (.func 8) #[] #[]].toArray) = wS from hwS.symm]
      clear hwS d0 d1
      have f0 := (cell_of_row wS wr.heap.size 0 _ _ _ HFS.out).trans rfl
      have f1 := (cell_of_row wS wr.heap.size 1 _ _ _ HFS.out).trans rfl
      go_wp2_with ((with_reducible refine wpList_load_row (o := ⟨some 27, _, _, _, _, _⟩) ?a1 25 (.tmp 1) ?a2 w.heap.size ?a3 25 R (0, 0) _ HIS.out.row Tryd.underlying25 ?a4 HIn.out ?_); (case a1 => rfl); (case a2 => rfl); (case a3 => rfl); (case a4 => rfl); refine Stop.out ?_)
      unfold Stop
      go_wp2_with (first
        | (go_at_call 8; refine (HC4.out _).mono ?_; rintro e w5 ⟨rfl, hb5⟩; have HI5 := Lib.hid (HIS.out.below hb5); clear hb5; refine Stop.out ?_))
      unfold Stop
      clear f0 f1
      go_wp2_with (first
        | (go_at_call 32; refine (code_itoa (colV x 4) (HBx.out 4).1 (HBx.out 4).2 _ HI5.out.tab).mono ?_; rintro e w6 ⟨rfl, hb6⟩; have HI6 := Lib.hid (HI5.out.below hb6); clear hb6; refine Stop.out ?_))
      unfold Stop
      go_wp2_with (first
        | (go_at_call 29; refine (code_write (itoaS (colV x 4)) (accV x 4) b _ HI6.out.text (itoa_1000 (HBx.out 4)) (Nat.le_trans (HSz.out 4) (by decide))).mono ?_; rintro e w7 ⟨rfl, hw7⟩; have HI7 : Hid (LineI w x R b g 5 w7) := Lib.hid (by rw [hw7]; exact HI6.out.wrote HBb.out.1 HBb.out.2 HT.out); clear hw7; refine Stop.out ?_))
      unfold Stop
      go_wp2
      go_roundw
      case rel => exact ⟨5, by decide, rfl, HI7⟩
      case measure => decide
    · have t0 := (cell_of_row wr b 0 _ _ _ HI.out.text).trans rfl
      have HLv : Hid (lineV x = if lateB x = true then cat (accV x 5) ⟨#[76]⟩ else accV x 5) := Lib.hid rfl
      generalize lateB x = q at HLt HLv
      cases q
      · go_wp2_with ((with_reducible refine wpList_load_row (o := ⟨some 38, _, _, _, _, _⟩) ?a1 25 (.tmp 1) ?a2 w.heap.size ?a3 25 R (0, 0) _ HI.out.row Tryd.underlying25 ?a4 HIn.out ?_); (case a1 => rfl); (case a2 => rfl); (case a3 => rfl); (case a4 => rfl); refine Stop.out ?_)
        unfold Stop
        go_wp2_with (first
          | (go_at_call 12; refine (HLt.out _).mono ?_; rintro e w5 ⟨rfl, hb5⟩; have HI5 := Lib.hid (HI.out.below hb5); clear hb5; refine Stop.out ?_))
        unfold Stop
        clear t0
        have t5 := (cell_of_row w5 b 0 _ _ _ HI5.out.text).trans rfl
        go_wp2
        go_ret
        exact ⟨by rw [HLv.out]; rfl, HI5.out.low⟩
      · go_wp2_with ((with_reducible refine wpList_load_row (o := ⟨some 38, _, _, _, _, _⟩) ?a1 25 (.tmp 1) ?a2 w.heap.size ?a3 25 R (0, 0) _ HI.out.row Tryd.underlying25 ?a4 HIn.out ?_); (case a1 => rfl); (case a2 => rfl); (case a3 => rfl); (case a4 => rfl); refine Stop.out ?_)
        unfold Stop
        go_wp2_with (first
          | (go_at_call 12; refine (HLt.out _).mono ?_; rintro e w5 ⟨rfl, hb5⟩; have HI5 := Lib.hid (HI.out.below hb5); clear hb5; refine Stop.out ?_))
        unfold Stop
        clear t0
        go_wp2_with (first
          | (go_at_call 29; refine (code_write ⟨#[76]⟩ (accV x 5) b _ HI5.out.text (by decide) (Nat.le_trans (HSz.out 5) (by decide))).mono ?_; rintro e w7 ⟨rfl, hw7⟩; have HX7 : Hid (w7.heap[b]? = some (.cells #[.string (cat (accV x 5) ⟨#[76]⟩)] 9 (0, 0)) ∧ Below w.heap.size w w7) := Lib.hid (by rw [hw7]; exact ⟨heap_setCell_same w5 b 0 _ _ _ HI5.out.text, HI5.out.low.setCell (p := ⟨b, 0, none⟩) (Nat.le_of_lt HBb.out.1) _⟩); clear hw7; refine Stop.out ?_))
        unfold Stop
        have t7 := (cell_of_row w7 b 0 _ _ _ HX7.out.1).trans rfl
        go_wp2
        go_ret
        exact ⟨by rw [HLv.out]; rfl, HX7.out.2⟩
theorem code_line (x : RowV) (w : World) (hB : RowB x) (hT : TabW w) : Calls Tryd.prog 19 #[.agg (rowA x)] w fun e w' => e = .returned (.string (lineV x)) ∧ Below w.heap.size w w' := code_lineR x _ rfl w hB hT
end Go.Proofs.YtaccjfoifkfpfaaDoor
