/- Commands with the fields alone that their kind names: the document's. Commands as bytes: Encode, by what it calls. -/
import Derived.Test.YtmjjenemokojjaaGreatD11
import Derived.WalkMore
import Derived.Test.YtmjjenemokojjaaGreatD26
import Derived.Test.YtmjjenemokojjaaGreatD28
import Derived.Laws.Rows
namespace Go.Proofs.YtmjjenemokojjaaGreat
open Go.RowKit
set_option maxRecDepth 100000
set_option linter.unusedSimpArgs false
set_option linter.unusedVariables false

abbrev kindZ (k : Int) : Array Value := #[.int .i64 k, .string ⟨#[]⟩, .string ⟨#[]⟩, .int .i64 0, .int .i64 0, .int .i64 0, .int .i64 0, .int .i64 0, .int .i64 0, .int .i64 0, .int .i64 0, .int .i64 0, .int .i64 0, .string ⟨#[]⟩, .bool false, .bool false, .string ⟨#[]⟩, .int .i64 0, .string ⟨#[]⟩, .string ⟨#[]⟩, .string ⟨#[]⟩, .slice none 0 0]
theorem kindZ_size (k : Int) : (kindZ k).size = 22 := rfl
def only1 (x : CmdV) : Array Value := ((((kindZ 1).setIfInBounds 1 (.string x.state)).setIfInBounds 9 (.int .i64 x.index)).setIfInBounds 5 (.int .i64 x.from_))
theorem only1_size (x : CmdV) : (only1 x).size = 22 := by unfold only1; simp [kindZ_size]
set_option maxHeartbeats 2000000 in
theorem bare_1 (cs : Array Value) (x : CmdV) (w : World) (hk : cs[0]? = some (.int .i64 1)) (h1 : cs[1]? = some (.string x.state)) (h9 : cs[9]? = some (.int .i64 x.index)) (h5 : cs[5]? = some (.int .i64 x.from_)) : Calls Tryz.prog 23 #[.agg cs] w fun e w1 => e = .returned (.agg (only1 x)) ∧ Below w.heap.size w w1 := by
 have hb0 := heap_alloc_new w (.cells cs 28)
 have hb1 := heap_alloc_new (w.alloc (.cells cs 28)) (.cells zeroCmd 28)
 simp only [World.size_alloc] at hb1
 have HA := Lib.hid (heap_on (below_alloc (w.alloc (.cells cs 28)) (.cells zeroCmd 28)) hb0)
 have HZ := Lib.hid hb1
 have HW := Lib.hid (show Below w.heap.size w ((w.alloc (.cells cs 28)).alloc (.cells zeroCmd 28)) from below_more (below_alloc _ _))
 have HN : Hid (((w.alloc (.cells cs 28)).alloc (.cells zeroCmd 28)).heap.size = w.heap.size + 2) := Lib.hid (by simp)
 have a0 : ((w.alloc (.cells cs 28)).alloc (.cells zeroCmd 28)).cell? ⟨w.heap.size, 0, none⟩ = some (.int .i64 1) := (cell_of_row _ _ 0 _ _ _ HA.out).trans hk
 clear hb0 hb1
 go_enter Tryz.func23, Tryz.ntmps23
 go_upto_region 1 with fail
 generalize World.alloc (World.alloc w _) _ = w2 at HA HZ HW HN a0 ⊢
 have hN := HN.out
 have HX2 : Hid ((w2.alloc (.cells zeroCmd 28)).heap[w.heap.size + 2]? = some (.cells zeroCmd 28 (0, 0))) := Lib.hid (by rw [← hN]; exact heap_alloc_new w2 _)
 have HO1 : Hid ((kindZ 1).all (·.oneCell') = true) := Lib.hid (by simp [Value.oneCell', kindZ])
 have HA2 := Lib.hid (heap_on (below_alloc w2 (.cells zeroCmd 28)) HA.out)
 have HZ2 := Lib.hid (heap_on (below_alloc w2 (.cells zeroCmd 28)) HZ.out)
 have HW2 := Lib.hid (below_then HW.out (below_alloc w2 (.cells zeroCmd 28)))
 go_wp2_with ((with_reducible refine wpList_store_row (o := ⟨none, _, _, _, _, _⟩) ?b1 28 (.tmp 3) (.tmp 6) ?b2 (w.heap.size + 2) (kindZ 1) ?b3 ?b4 28 zeroCmd HX2.out ?b5 ?b6 ?b7 ?_); (case b1 => rfl); (case b2 => rfl); (case b3 => rfl); (case b4 => rfl); (case b5 => exact cmd_info rfl); (case b6 => rfl); (case b7 => exact HO1.out); refine Stop.out ?_)
 unfold Stop
 have HO := Lib.hid (setRow_heap (w2.alloc (.cells zeroCmd 28)) (w.heap.size + 2) _ (kindZ 1) _ _ HX2.out)
 have HA3 := Lib.hid ((setRow_other (w2.alloc (.cells zeroCmd 28)) (w.heap.size + 2) w.heap.size (kindZ 1) (by omega)).trans HA2.out)
 have HZ3 := Lib.hid ((setRow_other (w2.alloc (.cells zeroCmd 28)) (w.heap.size + 2) (w.heap.size + 1) (kindZ 1) (by omega)).trans HZ2.out)
 have HW3 := Lib.hid (below_setRow HW2.out (g := w.heap.size + 2) (by omega) (kindZ 1))
 generalize World.setRow _ _ _ = wb at HO HA3 HZ3 HW3 ⊢
 clear HA HZ HW HN hN HX2 HO1 HA2 HZ2 HW2 a0
 have HA := HA3
 have HZ := HZ3
 have HW := HW3
 clear HA3 HZ3 HW3
 have HO2 : Hid (wb.heap[w.heap.size + 2]? = some (.cells (kindZ 1) 28 (0, 0))) := HO
 clear HO
 have HO := HO2
 clear HO2
 have a0 : wb.cell? ⟨w.heap.size, 0, none⟩ = some (.int .i64 1) := (cell_of_row _ _ 0 _ _ _ HA.out).trans hk
 generalize Value.agg (kindZ 1) = vk
 go_upto_region 4 with fail
 clear a0
 have c1 := (cell_of_row wb w.heap.size 1 _ _ _ HA.out).trans h1
 have o1 : wb.cell? ⟨w.heap.size + 2, 1, none⟩ = some (.string ⟨#[]⟩) := (cell_of_row wb (w.heap.size + 2) 1 _ _ _ HO.out).trans rfl
 have f1 := frozen_of_row wb (w.heap.size + 2) 1 _ _ HO.out
 have c9 := (cell_of_row wb w.heap.size 9 _ _ _ HA.out).trans h9
 have o9 : wb.cell? ⟨w.heap.size + 2, 9, none⟩ = some (.int .i64 0) := (cell_of_row wb (w.heap.size + 2) 9 _ _ _ HO.out).trans rfl
 have f9 := frozen_of_row wb (w.heap.size + 2) 9 _ _ HO.out
 have c5 := (cell_of_row wb w.heap.size 5 _ _ _ HA.out).trans h5
 have o5 : wb.cell? ⟨w.heap.size + 2, 5, none⟩ = some (.int .i64 0) := (cell_of_row wb (w.heap.size + 2) 5 _ _ _ HO.out).trans rfl
 have f5 := frozen_of_row wb (w.heap.size + 2) 5 _ _ HO.out
 have q0 : ((wb.setCell ⟨w.heap.size + 2, 1, none⟩ (.string x.state))).heap[w.heap.size + 2]? = some (.cells ((kindZ 1).setIfInBounds 1 (.string x.state)) 28 (0, 0)) := heap_setCell_same _ (w.heap.size + 2) 1 _ _ _ HO.out
 have q1 : (((wb.setCell ⟨w.heap.size + 2, 1, none⟩ (.string x.state)).setCell ⟨w.heap.size + 2, 9, none⟩ (.int .i64 x.index))).heap[w.heap.size + 2]? = some (.cells (((kindZ 1).setIfInBounds 1 (.string x.state)).setIfInBounds 9 (.int .i64 x.index)) 28 (0, 0)) := heap_setCell_same _ (w.heap.size + 2) 9 _ _ _ q0
 have q2 : ((((wb.setCell ⟨w.heap.size + 2, 1, none⟩ (.string x.state)).setCell ⟨w.heap.size + 2, 9, none⟩ (.int .i64 x.index)).setCell ⟨w.heap.size + 2, 5, none⟩ (.int .i64 x.from_))).heap[w.heap.size + 2]? = some (.cells ((((kindZ 1).setIfInBounds 1 (.string x.state)).setIfInBounds 9 (.int .i64 x.index)).setIfInBounds 5 (.int .i64 x.from_)) 28 (0, 0)) := heap_setCell_same _ (w.heap.size + 2) 5 _ _ _ q1
 have HB := Lib.hid (show ((((wb.setCell ⟨w.heap.size + 2, 1, none⟩ (.string x.state)).setCell ⟨w.heap.size + 2, 9, none⟩ (.int .i64 x.index)).setCell ⟨w.heap.size + 2, 5, none⟩ (.int .i64 x.from_))).heap[w.heap.size + 2]? = some (.cells (only1 x) 28 (0, 0)) from q2)
 clear q0 q1 q2
 have HZ2 : Hid (((((wb.setCell ⟨w.heap.size + 2, 1, none⟩ (.string x.state)).setCell ⟨w.heap.size + 2, 9, none⟩ (.int .i64 x.index)).setCell ⟨w.heap.size + 2, 5, none⟩ (.int .i64 x.from_))).heap[w.heap.size + 1]? = some (.cells zeroCmd 28 (0, 0))) := Lib.hid ((heap_setCell_other _ ⟨w.heap.size + 2, 5, none⟩ (w.heap.size + 1) (.int .i64 x.from_) (by simp)).trans ((heap_setCell_other _ ⟨w.heap.size + 2, 9, none⟩ (w.heap.size + 1) (.int .i64 x.index) (by simp)).trans ((heap_setCell_other _ ⟨w.heap.size + 2, 1, none⟩ (w.heap.size + 1) (.string x.state) (by simp)).trans HZ.out)))
 have s0 := Below.setCell HW.out (p := ⟨w.heap.size + 2, 1, none⟩) (show w.heap.size ≤ w.heap.size + 2 by omega) (.string x.state)
 have s1 := Below.setCell s0 (p := ⟨w.heap.size + 2, 9, none⟩) (show w.heap.size ≤ w.heap.size + 2 by omega) (.int .i64 x.index)
 have s2 := Below.setCell s1 (p := ⟨w.heap.size + 2, 5, none⟩) (show w.heap.size ≤ w.heap.size + 2 by omega) (.int .i64 x.from_)
 have HW2 := Lib.hid s2
 clear s0 s1 s2
 have HI := Lib.hid (And.intro (cmd_info (only1_size x)) (show (only1 x).all (·.oneCell') = true by rw [show (only1 x) = #[.int .i64 1, .string x.state, .string ⟨#[]⟩, .int .i64 0, .int .i64 0, .int .i64 x.from_, .int .i64 0, .int .i64 0, .int .i64 0, .int .i64 x.index, .int .i64 0, .int .i64 0, .int .i64 0, .string ⟨#[]⟩, .bool false, .bool false, .string ⟨#[]⟩, .int .i64 0, .string ⟨#[]⟩, .string ⟨#[]⟩, .string ⟨#[]⟩, .slice none 0 0] by simp [only1, kindZ]]; simp [Value.oneCell']))
 have HSZ := Lib.hid (only1_size x)
 clear hk h1 h9 h5 HA HZ HO HW
 go_upto_region 37 with fail
 generalize hx : (((wb.setCell ⟨w.heap.size + 2, 1, none⟩ (.string x.state)).setCell ⟨w.heap.size + 2, 9, none⟩ (.int .i64 x.index)).setCell ⟨w.heap.size + 2, 5, none⟩ (.int .i64 x.from_)) = wc at HB HZ2 HW2 ⊢
 clear hx c1 o1 f1 c9 o9 f9 c5 o5 f5
 go_wp2_with ((with_reducible refine wpList_load_row (o := ⟨some 98, _, _, _, _, _⟩) ?a1 28 (.tmp 3) ?a2 (w.heap.size + 2) ?a3 28 (only1 x) (0, 0) _ HB.out Tryz.underlying28 ?a4 HI.out.1 ?_); (case a1 => rfl); (case a2 => rfl); (case a3 => rfl); (case a4 => rfl); refine Stop.out ?_)
 unfold Stop
 go_wp2_with ((with_reducible refine wpList_store_row (o := ⟨none, _, _, _, _, _⟩) ?b1 28 (.tmp 2) (.tmp 98) ?b2 (w.heap.size + 1) (only1 x) ?b3 ?b4 28 zeroCmd HZ2.out HI.out.1 ?b5 HI.out.2 ?_); (case b1 => rfl); (case b2 => rfl); (case b3 => rfl); (case b4 => rfl); (case b5 => exact HSZ.out.symm); have HP9 := Lib.hid (setRow_heap wc (w.heap.size + 1) _ (only1 x) _ _ HZ2.out); have HB9 := Lib.hid (below_setRow HW2.out (g := w.heap.size + 1) (by omega) (only1 x)); refine Stop.out ?_)
 unfold Stop
 go_wp2
 exact bodyPost_ret (v := .agg (only1 x)) (results_cell_row Tryz.results23 _ _ (w.heap.size + 1) 28 (only1 x) (0, 0) _ rfl HP9.out Tryz.underlying28 rfl HI.out.1) rfl ⟨rfl, HB9.out⟩
def only2 (x : CmdV) : Array Value := ((((((kindZ 2).setIfInBounds 1 (.string x.state)).setIfInBounds 3 (.int .i64 x.category)).setIfInBounds 5 (.int .i64 x.from_)).setIfInBounds 6 (.int .i64 x.until_)).setIfInBounds 4 (.int .i64 x.bp))
theorem only2_size (x : CmdV) : (only2 x).size = 22 := by unfold only2; simp [kindZ_size]
set_option maxHeartbeats 2000000 in
theorem bare_2 (cs : Array Value) (x : CmdV) (w : World) (hk : cs[0]? = some (.int .i64 2)) (h1 : cs[1]? = some (.string x.state)) (h3 : cs[3]? = some (.int .i64 x.category)) (h5 : cs[5]? = some (.int .i64 x.from_)) (h6 : cs[6]? = some (.int .i64 x.until_)) (h4 : cs[4]? = some (.int .i64 x.bp)) : Calls Tryz.prog 23 #[.agg cs] w fun e w1 => e = .returned (.agg (only2 x)) ∧ Below w.heap.size w w1 := by
 have hb0 := heap_alloc_new w (.cells cs 28)
 have hb1 := heap_alloc_new (w.alloc (.cells cs 28)) (.cells zeroCmd 28)
 simp only [World.size_alloc] at hb1
 have HA := Lib.hid (heap_on (below_alloc (w.alloc (.cells cs 28)) (.cells zeroCmd 28)) hb0)
 have HZ := Lib.hid hb1
 have HW := Lib.hid (show Below w.heap.size w ((w.alloc (.cells cs 28)).alloc (.cells zeroCmd 28)) from below_more (below_alloc _ _))
 have HN : Hid (((w.alloc (.cells cs 28)).alloc (.cells zeroCmd 28)).heap.size = w.heap.size + 2) := Lib.hid (by simp)
 have a0 : ((w.alloc (.cells cs 28)).alloc (.cells zeroCmd 28)).cell? ⟨w.heap.size, 0, none⟩ = some (.int .i64 2) := (cell_of_row _ _ 0 _ _ _ HA.out).trans hk
 clear hb0 hb1
 go_enter Tryz.func23, Tryz.ntmps23
 go_upto_region 1 with fail
 generalize World.alloc (World.alloc w _) _ = w2 at HA HZ HW HN a0 ⊢
 have hN := HN.out
 have HX2 : Hid ((w2.alloc (.cells zeroCmd 28)).heap[w.heap.size + 2]? = some (.cells zeroCmd 28 (0, 0))) := Lib.hid (by rw [← hN]; exact heap_alloc_new w2 _)
 have HO1 : Hid ((kindZ 2).all (·.oneCell') = true) := Lib.hid (by simp [Value.oneCell', kindZ])
 have HA2 := Lib.hid (heap_on (below_alloc w2 (.cells zeroCmd 28)) HA.out)
 have HZ2 := Lib.hid (heap_on (below_alloc w2 (.cells zeroCmd 28)) HZ.out)
 have HW2 := Lib.hid (below_then HW.out (below_alloc w2 (.cells zeroCmd 28)))
 go_wp2_with ((with_reducible refine wpList_store_row (o := ⟨none, _, _, _, _, _⟩) ?b1 28 (.tmp 3) (.tmp 6) ?b2 (w.heap.size + 2) (kindZ 2) ?b3 ?b4 28 zeroCmd HX2.out ?b5 ?b6 ?b7 ?_); (case b1 => rfl); (case b2 => rfl); (case b3 => rfl); (case b4 => rfl); (case b5 => exact cmd_info rfl); (case b6 => rfl); (case b7 => exact HO1.out); refine Stop.out ?_)
 unfold Stop
 have HO := Lib.hid (setRow_heap (w2.alloc (.cells zeroCmd 28)) (w.heap.size + 2) _ (kindZ 2) _ _ HX2.out)
 have HA3 := Lib.hid ((setRow_other (w2.alloc (.cells zeroCmd 28)) (w.heap.size + 2) w.heap.size (kindZ 2) (by omega)).trans HA2.out)
 have HZ3 := Lib.hid ((setRow_other (w2.alloc (.cells zeroCmd 28)) (w.heap.size + 2) (w.heap.size + 1) (kindZ 2) (by omega)).trans HZ2.out)
 have HW3 := Lib.hid (below_setRow HW2.out (g := w.heap.size + 2) (by omega) (kindZ 2))
 generalize World.setRow _ _ _ = wb at HO HA3 HZ3 HW3 ⊢
 clear HA HZ HW HN hN HX2 HO1 HA2 HZ2 HW2 a0
 have HA := HA3
 have HZ := HZ3
 have HW := HW3
 clear HA3 HZ3 HW3
 have HO2 : Hid (wb.heap[w.heap.size + 2]? = some (.cells (kindZ 2) 28 (0, 0))) := HO
 clear HO
 have HO := HO2
 clear HO2
 have a0 : wb.cell? ⟨w.heap.size, 0, none⟩ = some (.int .i64 2) := (cell_of_row _ _ 0 _ _ _ HA.out).trans hk
 generalize Value.agg (kindZ 2) = vk
 go_upto_region 8 with fail
 clear a0
 have c1 := (cell_of_row wb w.heap.size 1 _ _ _ HA.out).trans h1
 have o1 : wb.cell? ⟨w.heap.size + 2, 1, none⟩ = some (.string ⟨#[]⟩) := (cell_of_row wb (w.heap.size + 2) 1 _ _ _ HO.out).trans rfl
 have f1 := frozen_of_row wb (w.heap.size + 2) 1 _ _ HO.out
 have c3 := (cell_of_row wb w.heap.size 3 _ _ _ HA.out).trans h3
 have o3 : wb.cell? ⟨w.heap.size + 2, 3, none⟩ = some (.int .i64 0) := (cell_of_row wb (w.heap.size + 2) 3 _ _ _ HO.out).trans rfl
 have f3 := frozen_of_row wb (w.heap.size + 2) 3 _ _ HO.out
 have c5 := (cell_of_row wb w.heap.size 5 _ _ _ HA.out).trans h5
 have o5 : wb.cell? ⟨w.heap.size + 2, 5, none⟩ = some (.int .i64 0) := (cell_of_row wb (w.heap.size + 2) 5 _ _ _ HO.out).trans rfl
 have f5 := frozen_of_row wb (w.heap.size + 2) 5 _ _ HO.out
 have c6 := (cell_of_row wb w.heap.size 6 _ _ _ HA.out).trans h6
 have o6 : wb.cell? ⟨w.heap.size + 2, 6, none⟩ = some (.int .i64 0) := (cell_of_row wb (w.heap.size + 2) 6 _ _ _ HO.out).trans rfl
 have f6 := frozen_of_row wb (w.heap.size + 2) 6 _ _ HO.out
 have c4 := (cell_of_row wb w.heap.size 4 _ _ _ HA.out).trans h4
 have o4 : wb.cell? ⟨w.heap.size + 2, 4, none⟩ = some (.int .i64 0) := (cell_of_row wb (w.heap.size + 2) 4 _ _ _ HO.out).trans rfl
 have f4 := frozen_of_row wb (w.heap.size + 2) 4 _ _ HO.out
 have q0 : ((wb.setCell ⟨w.heap.size + 2, 1, none⟩ (.string x.state))).heap[w.heap.size + 2]? = some (.cells ((kindZ 2).setIfInBounds 1 (.string x.state)) 28 (0, 0)) := heap_setCell_same _ (w.heap.size + 2) 1 _ _ _ HO.out
 have q1 : (((wb.setCell ⟨w.heap.size + 2, 1, none⟩ (.string x.state)).setCell ⟨w.heap.size + 2, 3, none⟩ (.int .i64 x.category))).heap[w.heap.size + 2]? = some (.cells (((kindZ 2).setIfInBounds 1 (.string x.state)).setIfInBounds 3 (.int .i64 x.category)) 28 (0, 0)) := heap_setCell_same _ (w.heap.size + 2) 3 _ _ _ q0
 have q2 : ((((wb.setCell ⟨w.heap.size + 2, 1, none⟩ (.string x.state)).setCell ⟨w.heap.size + 2, 3, none⟩ (.int .i64 x.category)).setCell ⟨w.heap.size + 2, 5, none⟩ (.int .i64 x.from_))).heap[w.heap.size + 2]? = some (.cells ((((kindZ 2).setIfInBounds 1 (.string x.state)).setIfInBounds 3 (.int .i64 x.category)).setIfInBounds 5 (.int .i64 x.from_)) 28 (0, 0)) := heap_setCell_same _ (w.heap.size + 2) 5 _ _ _ q1
 have q3 : (((((wb.setCell ⟨w.heap.size + 2, 1, none⟩ (.string x.state)).setCell ⟨w.heap.size + 2, 3, none⟩ (.int .i64 x.category)).setCell ⟨w.heap.size + 2, 5, none⟩ (.int .i64 x.from_)).setCell ⟨w.heap.size + 2, 6, none⟩ (.int .i64 x.until_))).heap[w.heap.size + 2]? = some (.cells (((((kindZ 2).setIfInBounds 1 (.string x.state)).setIfInBounds 3 (.int .i64 x.category)).setIfInBounds 5 (.int .i64 x.from_)).setIfInBounds 6 (.int .i64 x.until_)) 28 (0, 0)) := heap_setCell_same _ (w.heap.size + 2) 6 _ _ _ q2
 have q4 : ((((((wb.setCell ⟨w.heap.size + 2, 1, none⟩ (.string x.state)).setCell ⟨w.heap.size + 2, 3, none⟩ (.int .i64 x.category)).setCell ⟨w.heap.size + 2, 5, none⟩ (.int .i64 x.from_)).setCell ⟨w.heap.size + 2, 6, none⟩ (.int .i64 x.until_)).setCell ⟨w.heap.size + 2, 4, none⟩ (.int .i64 x.bp))).heap[w.heap.size + 2]? = some (.cells ((((((kindZ 2).setIfInBounds 1 (.string x.state)).setIfInBounds 3 (.int .i64 x.category)).setIfInBounds 5 (.int .i64 x.from_)).setIfInBounds 6 (.int .i64 x.until_)).setIfInBounds 4 (.int .i64 x.bp)) 28 (0, 0)) := heap_setCell_same _ (w.heap.size + 2) 4 _ _ _ q3
 have HB := Lib.hid (show ((((((wb.setCell ⟨w.heap.size + 2, 1, none⟩ (.string x.state)).setCell ⟨w.heap.size + 2, 3, none⟩ (.int .i64 x.category)).setCell ⟨w.heap.size + 2, 5, none⟩ (.int .i64 x.from_)).setCell ⟨w.heap.size + 2, 6, none⟩ (.int .i64 x.until_)).setCell ⟨w.heap.size + 2, 4, none⟩ (.int .i64 x.bp))).heap[w.heap.size + 2]? = some (.cells (only2 x) 28 (0, 0)) from q4)
 clear q0 q1 q2 q3 q4
 have HZ2 : Hid (((((((wb.setCell ⟨w.heap.size + 2, 1, none⟩ (.string x.state)).setCell ⟨w.heap.size + 2, 3, none⟩ (.int .i64 x.category)).setCell ⟨w.heap.size + 2, 5, none⟩ (.int .i64 x.from_)).setCell ⟨w.heap.size + 2, 6, none⟩ (.int .i64 x.until_)).setCell ⟨w.heap.size + 2, 4, none⟩ (.int .i64 x.bp))).heap[w.heap.size + 1]? = some (.cells zeroCmd 28 (0, 0))) := Lib.hid ((heap_setCell_other _ ⟨w.heap.size + 2, 4, none⟩ (w.heap.size + 1) (.int .i64 x.bp) (by simp)).trans ((heap_setCell_other _ ⟨w.heap.size + 2, 6, none⟩ (w.heap.size + 1) (.int .i64 x.until_) (by simp)).trans ((heap_setCell_other _ ⟨w.heap.size + 2, 5, none⟩ (w.heap.size + 1) (.int .i64 x.from_) (by simp)).trans ((heap_setCell_other _ ⟨w.heap.size + 2, 3, none⟩ (w.heap.size + 1) (.int .i64 x.category) (by simp)).trans ((heap_setCell_other _ ⟨w.heap.size + 2, 1, none⟩ (w.heap.size + 1) (.string x.state) (by simp)).trans HZ.out)))))
 have s0 := Below.setCell HW.out (p := ⟨w.heap.size + 2, 1, none⟩) (show w.heap.size ≤ w.heap.size + 2 by omega) (.string x.state)
 have s1 := Below.setCell s0 (p := ⟨w.heap.size + 2, 3, none⟩) (show w.heap.size ≤ w.heap.size + 2 by omega) (.int .i64 x.category)
 have s2 := Below.setCell s1 (p := ⟨w.heap.size + 2, 5, none⟩) (show w.heap.size ≤ w.heap.size + 2 by omega) (.int .i64 x.from_)
 have s3 := Below.setCell s2 (p := ⟨w.heap.size + 2, 6, none⟩) (show w.heap.size ≤ w.heap.size + 2 by omega) (.int .i64 x.until_)
 have s4 := Below.setCell s3 (p := ⟨w.heap.size + 2, 4, none⟩) (show w.heap.size ≤ w.heap.size + 2 by omega) (.int .i64 x.bp)
 have HW2 := Lib.hid s4
 clear s0 s1 s2 s3 s4
 have HI := Lib.hid (And.intro (cmd_info (only2_size x)) (show (only2 x).all (·.oneCell') = true by rw [show (only2 x) = #[.int .i64 2, .string x.state, .string ⟨#[]⟩, .int .i64 x.category, .int .i64 x.bp, .int .i64 x.from_, .int .i64 x.until_, .int .i64 0, .int .i64 0, .int .i64 0, .int .i64 0, .int .i64 0, .int .i64 0, .string ⟨#[]⟩, .bool false, .bool false, .string ⟨#[]⟩, .int .i64 0, .string ⟨#[]⟩, .string ⟨#[]⟩, .string ⟨#[]⟩, .slice none 0 0] by simp [only2, kindZ]]; simp [Value.oneCell']))
 have HSZ := Lib.hid (only2_size x)
 clear hk h1 h3 h5 h6 h4 HA HZ HO HW
 go_upto_region 37 with fail
 generalize hx : (((((wb.setCell ⟨w.heap.size + 2, 1, none⟩ (.string x.state)).setCell ⟨w.heap.size + 2, 3, none⟩ (.int .i64 x.category)).setCell ⟨w.heap.size + 2, 5, none⟩ (.int .i64 x.from_)).setCell ⟨w.heap.size + 2, 6, none⟩ (.int .i64 x.until_)).setCell ⟨w.heap.size + 2, 4, none⟩ (.int .i64 x.bp)) = wc at HB HZ2 HW2 ⊢
 clear hx c1 o1 f1 c3 o3 f3 c5 o5 f5 c6 o6 f6 c4 o4 f4
 go_wp2_with ((with_reducible refine wpList_load_row (o := ⟨some 98, _, _, _, _, _⟩) ?a1 28 (.tmp 3) ?a2 (w.heap.size + 2) ?a3 28 (only2 x) (0, 0) _ HB.out Tryz.underlying28 ?a4 HI.out.1 ?_); (case a1 => rfl); (case a2 => rfl); (case a3 => rfl); (case a4 => rfl); refine Stop.out ?_)
 unfold Stop
 go_wp2_with ((with_reducible refine wpList_store_row (o := ⟨none, _, _, _, _, _⟩) ?b1 28 (.tmp 2) (.tmp 98) ?b2 (w.heap.size + 1) (only2 x) ?b3 ?b4 28 zeroCmd HZ2.out HI.out.1 ?b5 HI.out.2 ?_); (case b1 => rfl); (case b2 => rfl); (case b3 => rfl); (case b4 => rfl); (case b5 => exact HSZ.out.symm); have HP9 := Lib.hid (setRow_heap wc (w.heap.size + 1) _ (only2 x) _ _ HZ2.out); have HB9 := Lib.hid (below_setRow HW2.out (g := w.heap.size + 1) (by omega) (only2 x)); refine Stop.out ?_)
 unfold Stop
 go_wp2
 exact bodyPost_ret (v := .agg (only2 x)) (results_cell_row Tryz.results23 _ _ (w.heap.size + 1) 28 (only2 x) (0, 0) _ rfl HP9.out Tryz.underlying28 rfl HI.out.1) rfl ⟨rfl, HB9.out⟩
def only3 (x : CmdV) : Array Value := (((kindZ 3).setIfInBounds 5 (.int .i64 x.from_)).setIfInBounds 6 (.int .i64 x.until_))
theorem only3_size (x : CmdV) : (only3 x).size = 22 := by unfold only3; simp [kindZ_size]
set_option maxHeartbeats 2000000 in
theorem bare_3 (cs : Array Value) (x : CmdV) (w : World) (hk : cs[0]? = some (.int .i64 3)) (h5 : cs[5]? = some (.int .i64 x.from_)) (h6 : cs[6]? = some (.int .i64 x.until_)) : Calls Tryz.prog 23 #[.agg cs] w fun e w1 => e = .returned (.agg (only3 x)) ∧ Below w.heap.size w w1 := by
 have hb0 := heap_alloc_new w (.cells cs 28)
 have hb1 := heap_alloc_new (w.alloc (.cells cs 28)) (.cells zeroCmd 28)
 simp only [World.size_alloc] at hb1
 have HA := Lib.hid (heap_on (below_alloc (w.alloc (.cells cs 28)) (.cells zeroCmd 28)) hb0)
 have HZ := Lib.hid hb1
 have HW := Lib.hid (show Below w.heap.size w ((w.alloc (.cells cs 28)).alloc (.cells zeroCmd 28)) from below_more (below_alloc _ _))
 have HN : Hid (((w.alloc (.cells cs 28)).alloc (.cells zeroCmd 28)).heap.size = w.heap.size + 2) := Lib.hid (by simp)
 have a0 : ((w.alloc (.cells cs 28)).alloc (.cells zeroCmd 28)).cell? ⟨w.heap.size, 0, none⟩ = some (.int .i64 3) := (cell_of_row _ _ 0 _ _ _ HA.out).trans hk
 clear hb0 hb1
 go_enter Tryz.func23, Tryz.ntmps23
 go_upto_region 1 with fail
 generalize World.alloc (World.alloc w _) _ = w2 at HA HZ HW HN a0 ⊢
 have hN := HN.out
 have HX2 : Hid ((w2.alloc (.cells zeroCmd 28)).heap[w.heap.size + 2]? = some (.cells zeroCmd 28 (0, 0))) := Lib.hid (by rw [← hN]; exact heap_alloc_new w2 _)
 have HO1 : Hid ((kindZ 3).all (·.oneCell') = true) := Lib.hid (by simp [Value.oneCell', kindZ])
 have HA2 := Lib.hid (heap_on (below_alloc w2 (.cells zeroCmd 28)) HA.out)
 have HZ2 := Lib.hid (heap_on (below_alloc w2 (.cells zeroCmd 28)) HZ.out)
 have HW2 := Lib.hid (below_then HW.out (below_alloc w2 (.cells zeroCmd 28)))
 go_wp2_with ((with_reducible refine wpList_store_row (o := ⟨none, _, _, _, _, _⟩) ?b1 28 (.tmp 3) (.tmp 6) ?b2 (w.heap.size + 2) (kindZ 3) ?b3 ?b4 28 zeroCmd HX2.out ?b5 ?b6 ?b7 ?_); (case b1 => rfl); (case b2 => rfl); (case b3 => rfl); (case b4 => rfl); (case b5 => exact cmd_info rfl); (case b6 => rfl); (case b7 => exact HO1.out); refine Stop.out ?_)
 unfold Stop
 have HO := Lib.hid (setRow_heap (w2.alloc (.cells zeroCmd 28)) (w.heap.size + 2) _ (kindZ 3) _ _ HX2.out)
 have HA3 := Lib.hid ((setRow_other (w2.alloc (.cells zeroCmd 28)) (w.heap.size + 2) w.heap.size (kindZ 3) (by omega)).trans HA2.out)
 have HZ3 := Lib.hid ((setRow_other (w2.alloc (.cells zeroCmd 28)) (w.heap.size + 2) (w.heap.size + 1) (kindZ 3) (by omega)).trans HZ2.out)
 have HW3 := Lib.hid (below_setRow HW2.out (g := w.heap.size + 2) (by omega) (kindZ 3))
 generalize World.setRow _ _ _ = wb at HO HA3 HZ3 HW3 ⊢
 clear HA HZ HW HN hN HX2 HO1 HA2 HZ2 HW2 a0
 have HA := HA3
 have HZ := HZ3
 have HW := HW3
 clear HA3 HZ3 HW3
 have HO2 : Hid (wb.heap[w.heap.size + 2]? = some (.cells (kindZ 3) 28 (0, 0))) := HO
 clear HO
 have HO := HO2
 clear HO2
 have a0 : wb.cell? ⟨w.heap.size, 0, none⟩ = some (.int .i64 3) := (cell_of_row _ _ 0 _ _ _ HA.out).trans hk
 generalize Value.agg (kindZ 3) = vk
 go_upto_region 14 with fail
 clear a0
 have c5 := (cell_of_row wb w.heap.size 5 _ _ _ HA.out).trans h5
 have o5 : wb.cell? ⟨w.heap.size + 2, 5, none⟩ = some (.int .i64 0) := (cell_of_row wb (w.heap.size + 2) 5 _ _ _ HO.out).trans rfl
 have f5 := frozen_of_row wb (w.heap.size + 2) 5 _ _ HO.out
 have c6 := (cell_of_row wb w.heap.size 6 _ _ _ HA.out).trans h6
 have o6 : wb.cell? ⟨w.heap.size + 2, 6, none⟩ = some (.int .i64 0) := (cell_of_row wb (w.heap.size + 2) 6 _ _ _ HO.out).trans rfl
 have f6 := frozen_of_row wb (w.heap.size + 2) 6 _ _ HO.out
 have q0 : ((wb.setCell ⟨w.heap.size + 2, 5, none⟩ (.int .i64 x.from_))).heap[w.heap.size + 2]? = some (.cells ((kindZ 3).setIfInBounds 5 (.int .i64 x.from_)) 28 (0, 0)) := heap_setCell_same _ (w.heap.size + 2) 5 _ _ _ HO.out
 have q1 : (((wb.setCell ⟨w.heap.size + 2, 5, none⟩ (.int .i64 x.from_)).setCell ⟨w.heap.size + 2, 6, none⟩ (.int .i64 x.until_))).heap[w.heap.size + 2]? = some (.cells (((kindZ 3).setIfInBounds 5 (.int .i64 x.from_)).setIfInBounds 6 (.int .i64 x.until_)) 28 (0, 0)) := heap_setCell_same _ (w.heap.size + 2) 6 _ _ _ q0
 have HB := Lib.hid (show (((wb.setCell ⟨w.heap.size + 2, 5, none⟩ (.int .i64 x.from_)).setCell ⟨w.heap.size + 2, 6, none⟩ (.int .i64 x.until_))).heap[w.heap.size + 2]? = some (.cells (only3 x) 28 (0, 0)) from q1)
 clear q0 q1
 have HZ2 : Hid ((((wb.setCell ⟨w.heap.size + 2, 5, none⟩ (.int .i64 x.from_)).setCell ⟨w.heap.size + 2, 6, none⟩ (.int .i64 x.until_))).heap[w.heap.size + 1]? = some (.cells zeroCmd 28 (0, 0))) := Lib.hid ((heap_setCell_other _ ⟨w.heap.size + 2, 6, none⟩ (w.heap.size + 1) (.int .i64 x.until_) (by simp)).trans ((heap_setCell_other _ ⟨w.heap.size + 2, 5, none⟩ (w.heap.size + 1) (.int .i64 x.from_) (by simp)).trans HZ.out))
 have s0 := Below.setCell HW.out (p := ⟨w.heap.size + 2, 5, none⟩) (show w.heap.size ≤ w.heap.size + 2 by omega) (.int .i64 x.from_)
 have s1 := Below.setCell s0 (p := ⟨w.heap.size + 2, 6, none⟩) (show w.heap.size ≤ w.heap.size + 2 by omega) (.int .i64 x.until_)
 have HW2 := Lib.hid s1
 clear s0 s1
 have HI := Lib.hid (And.intro (cmd_info (only3_size x)) (show (only3 x).all (·.oneCell') = true by rw [show (only3 x) = #[.int .i64 3, .string ⟨#[]⟩, .string ⟨#[]⟩, .int .i64 0, .int .i64 0, .int .i64 x.from_, .int .i64 x.until_, .int .i64 0, .int .i64 0, .int .i64 0, .int .i64 0, .int .i64 0, .int .i64 0, .string ⟨#[]⟩, .bool false, .bool false, .string ⟨#[]⟩, .int .i64 0, .string ⟨#[]⟩, .string ⟨#[]⟩, .string ⟨#[]⟩, .slice none 0 0] by simp [only3, kindZ]]; simp [Value.oneCell']))
 have HSZ := Lib.hid (only3_size x)
 clear hk h5 h6 HA HZ HO HW
 go_upto_region 37 with fail
 generalize hx : ((wb.setCell ⟨w.heap.size + 2, 5, none⟩ (.int .i64 x.from_)).setCell ⟨w.heap.size + 2, 6, none⟩ (.int .i64 x.until_)) = wc at HB HZ2 HW2 ⊢
 clear hx c5 o5 f5 c6 o6 f6
 go_wp2_with ((with_reducible refine wpList_load_row (o := ⟨some 98, _, _, _, _, _⟩) ?a1 28 (.tmp 3) ?a2 (w.heap.size + 2) ?a3 28 (only3 x) (0, 0) _ HB.out Tryz.underlying28 ?a4 HI.out.1 ?_); (case a1 => rfl); (case a2 => rfl); (case a3 => rfl); (case a4 => rfl); refine Stop.out ?_)
 unfold Stop
 go_wp2_with ((with_reducible refine wpList_store_row (o := ⟨none, _, _, _, _, _⟩) ?b1 28 (.tmp 2) (.tmp 98) ?b2 (w.heap.size + 1) (only3 x) ?b3 ?b4 28 zeroCmd HZ2.out HI.out.1 ?b5 HI.out.2 ?_); (case b1 => rfl); (case b2 => rfl); (case b3 => rfl); (case b4 => rfl); (case b5 => exact HSZ.out.symm); have HP9 := Lib.hid (setRow_heap wc (w.heap.size + 1) _ (only3 x) _ _ HZ2.out); have HB9 := Lib.hid (below_setRow HW2.out (g := w.heap.size + 1) (by omega) (only3 x)); refine Stop.out ?_)
 unfold Stop
 go_wp2
 exact bodyPost_ret (v := .agg (only3 x)) (results_cell_row Tryz.results23 _ _ (w.heap.size + 1) 28 (only3 x) (0, 0) _ rfl HP9.out Tryz.underlying28 rfl HI.out.1) rfl ⟨rfl, HB9.out⟩
def only4 (x : CmdV) : Array Value := (((((kindZ 4).setIfInBounds 1 (.string x.state)).setIfInBounds 2 (.string x.text)).setIfInBounds 5 (.int .i64 x.from_)).setIfInBounds 6 (.int .i64 x.until_))
theorem only4_size (x : CmdV) : (only4 x).size = 22 := by unfold only4; simp [kindZ_size]
set_option maxHeartbeats 2000000 in
theorem bare_4 (cs : Array Value) (x : CmdV) (w : World) (hk : cs[0]? = some (.int .i64 4)) (h1 : cs[1]? = some (.string x.state)) (h2 : cs[2]? = some (.string x.text)) (h5 : cs[5]? = some (.int .i64 x.from_)) (h6 : cs[6]? = some (.int .i64 x.until_)) : Calls Tryz.prog 23 #[.agg cs] w fun e w1 => e = .returned (.agg (only4 x)) ∧ Below w.heap.size w w1 := by
 have hb0 := heap_alloc_new w (.cells cs 28)
 have hb1 := heap_alloc_new (w.alloc (.cells cs 28)) (.cells zeroCmd 28)
 simp only [World.size_alloc] at hb1
 have HA := Lib.hid (heap_on (below_alloc (w.alloc (.cells cs 28)) (.cells zeroCmd 28)) hb0)
 have HZ := Lib.hid hb1
 have HW := Lib.hid (show Below w.heap.size w ((w.alloc (.cells cs 28)).alloc (.cells zeroCmd 28)) from below_more (below_alloc _ _))
 have HN : Hid (((w.alloc (.cells cs 28)).alloc (.cells zeroCmd 28)).heap.size = w.heap.size + 2) := Lib.hid (by simp)
 have a0 : ((w.alloc (.cells cs 28)).alloc (.cells zeroCmd 28)).cell? ⟨w.heap.size, 0, none⟩ = some (.int .i64 4) := (cell_of_row _ _ 0 _ _ _ HA.out).trans hk
 clear hb0 hb1
 go_enter Tryz.func23, Tryz.ntmps23
 go_upto_region 1 with fail
 generalize World.alloc (World.alloc w _) _ = w2 at HA HZ HW HN a0 ⊢
 have hN := HN.out
 have HX2 : Hid ((w2.alloc (.cells zeroCmd 28)).heap[w.heap.size + 2]? = some (.cells zeroCmd 28 (0, 0))) := Lib.hid (by rw [← hN]; exact heap_alloc_new w2 _)
 have HO1 : Hid ((kindZ 4).all (·.oneCell') = true) := Lib.hid (by simp [Value.oneCell', kindZ])
 have HA2 := Lib.hid (heap_on (below_alloc w2 (.cells zeroCmd 28)) HA.out)
 have HZ2 := Lib.hid (heap_on (below_alloc w2 (.cells zeroCmd 28)) HZ.out)
 have HW2 := Lib.hid (below_then HW.out (below_alloc w2 (.cells zeroCmd 28)))
 go_wp2_with ((with_reducible refine wpList_store_row (o := ⟨none, _, _, _, _, _⟩) ?b1 28 (.tmp 3) (.tmp 6) ?b2 (w.heap.size + 2) (kindZ 4) ?b3 ?b4 28 zeroCmd HX2.out ?b5 ?b6 ?b7 ?_); (case b1 => rfl); (case b2 => rfl); (case b3 => rfl); (case b4 => rfl); (case b5 => exact cmd_info rfl); (case b6 => rfl); (case b7 => exact HO1.out); refine Stop.out ?_)
 unfold Stop
 have HO := Lib.hid (setRow_heap (w2.alloc (.cells zeroCmd 28)) (w.heap.size + 2) _ (kindZ 4) _ _ HX2.out)
 have HA3 := Lib.hid ((setRow_other (w2.alloc (.cells zeroCmd 28)) (w.heap.size + 2) w.heap.size (kindZ 4) (by omega)).trans HA2.out)
 have HZ3 := Lib.hid ((setRow_other (w2.alloc (.cells zeroCmd 28)) (w.heap.size + 2) (w.heap.size + 1) (kindZ 4) (by omega)).trans HZ2.out)
 have HW3 := Lib.hid (below_setRow HW2.out (g := w.heap.size + 2) (by omega) (kindZ 4))
 generalize World.setRow _ _ _ = wb at HO HA3 HZ3 HW3 ⊢
 clear HA HZ HW HN hN HX2 HO1 HA2 HZ2 HW2 a0
 have HA := HA3
 have HZ := HZ3
 have HW := HW3
 clear HA3 HZ3 HW3
 have HO2 : Hid (wb.heap[w.heap.size + 2]? = some (.cells (kindZ 4) 28 (0, 0))) := HO
 clear HO
 have HO := HO2
 clear HO2
 have a0 : wb.cell? ⟨w.heap.size, 0, none⟩ = some (.int .i64 4) := (cell_of_row _ _ 0 _ _ _ HA.out).trans hk
 generalize Value.agg (kindZ 4) = vk
 go_upto_region 17 with fail
 clear a0
 have c1 := (cell_of_row wb w.heap.size 1 _ _ _ HA.out).trans h1
 have o1 : wb.cell? ⟨w.heap.size + 2, 1, none⟩ = some (.string ⟨#[]⟩) := (cell_of_row wb (w.heap.size + 2) 1 _ _ _ HO.out).trans rfl
 have f1 := frozen_of_row wb (w.heap.size + 2) 1 _ _ HO.out
 have c2 := (cell_of_row wb w.heap.size 2 _ _ _ HA.out).trans h2
 have o2 : wb.cell? ⟨w.heap.size + 2, 2, none⟩ = some (.string ⟨#[]⟩) := (cell_of_row wb (w.heap.size + 2) 2 _ _ _ HO.out).trans rfl
 have f2 := frozen_of_row wb (w.heap.size + 2) 2 _ _ HO.out
 have c5 := (cell_of_row wb w.heap.size 5 _ _ _ HA.out).trans h5
 have o5 : wb.cell? ⟨w.heap.size + 2, 5, none⟩ = some (.int .i64 0) := (cell_of_row wb (w.heap.size + 2) 5 _ _ _ HO.out).trans rfl
 have f5 := frozen_of_row wb (w.heap.size + 2) 5 _ _ HO.out
 have c6 := (cell_of_row wb w.heap.size 6 _ _ _ HA.out).trans h6
 have o6 : wb.cell? ⟨w.heap.size + 2, 6, none⟩ = some (.int .i64 0) := (cell_of_row wb (w.heap.size + 2) 6 _ _ _ HO.out).trans rfl
 have f6 := frozen_of_row wb (w.heap.size + 2) 6 _ _ HO.out
 have q0 : ((wb.setCell ⟨w.heap.size + 2, 1, none⟩ (.string x.state))).heap[w.heap.size + 2]? = some (.cells ((kindZ 4).setIfInBounds 1 (.string x.state)) 28 (0, 0)) := heap_setCell_same _ (w.heap.size + 2) 1 _ _ _ HO.out
 have q1 : (((wb.setCell ⟨w.heap.size + 2, 1, none⟩ (.string x.state)).setCell ⟨w.heap.size + 2, 2, none⟩ (.string x.text))).heap[w.heap.size + 2]? = some (.cells (((kindZ 4).setIfInBounds 1 (.string x.state)).setIfInBounds 2 (.string x.text)) 28 (0, 0)) := heap_setCell_same _ (w.heap.size + 2) 2 _ _ _ q0
 have q2 : ((((wb.setCell ⟨w.heap.size + 2, 1, none⟩ (.string x.state)).setCell ⟨w.heap.size + 2, 2, none⟩ (.string x.text)).setCell ⟨w.heap.size + 2, 5, none⟩ (.int .i64 x.from_))).heap[w.heap.size + 2]? = some (.cells ((((kindZ 4).setIfInBounds 1 (.string x.state)).setIfInBounds 2 (.string x.text)).setIfInBounds 5 (.int .i64 x.from_)) 28 (0, 0)) := heap_setCell_same _ (w.heap.size + 2) 5 _ _ _ q1
 have q3 : (((((wb.setCell ⟨w.heap.size + 2, 1, none⟩ (.string x.state)).setCell ⟨w.heap.size + 2, 2, none⟩ (.string x.text)).setCell ⟨w.heap.size + 2, 5, none⟩ (.int .i64 x.from_)).setCell ⟨w.heap.size + 2, 6, none⟩ (.int .i64 x.until_))).heap[w.heap.size + 2]? = some (.cells (((((kindZ 4).setIfInBounds 1 (.string x.state)).setIfInBounds 2 (.string x.text)).setIfInBounds 5 (.int .i64 x.from_)).setIfInBounds 6 (.int .i64 x.until_)) 28 (0, 0)) := heap_setCell_same _ (w.heap.size + 2) 6 _ _ _ q2
 have HB := Lib.hid (show (((((wb.setCell ⟨w.heap.size + 2, 1, none⟩ (.string x.state)).setCell ⟨w.heap.size + 2, 2, none⟩ (.string x.text)).setCell ⟨w.heap.size + 2, 5, none⟩ (.int .i64 x.from_)).setCell ⟨w.heap.size + 2, 6, none⟩ (.int .i64 x.until_))).heap[w.heap.size + 2]? = some (.cells (only4 x) 28 (0, 0)) from q3)
 clear q0 q1 q2 q3
 have HZ2 : Hid ((((((wb.setCell ⟨w.heap.size + 2, 1, none⟩ (.string x.state)).setCell ⟨w.heap.size + 2, 2, none⟩ (.string x.text)).setCell ⟨w.heap.size + 2, 5, none⟩ (.int .i64 x.from_)).setCell ⟨w.heap.size + 2, 6, none⟩ (.int .i64 x.until_))).heap[w.heap.size + 1]? = some (.cells zeroCmd 28 (0, 0))) := Lib.hid ((heap_setCell_other _ ⟨w.heap.size + 2, 6, none⟩ (w.heap.size + 1) (.int .i64 x.until_) (by simp)).trans ((heap_setCell_other _ ⟨w.heap.size + 2, 5, none⟩ (w.heap.size + 1) (.int .i64 x.from_) (by simp)).trans ((heap_setCell_other _ ⟨w.heap.size + 2, 2, none⟩ (w.heap.size + 1) (.string x.text) (by simp)).trans ((heap_setCell_other _ ⟨w.heap.size + 2, 1, none⟩ (w.heap.size + 1) (.string x.state) (by simp)).trans HZ.out))))
 have s0 := Below.setCell HW.out (p := ⟨w.heap.size + 2, 1, none⟩) (show w.heap.size ≤ w.heap.size + 2 by omega) (.string x.state)
 have s1 := Below.setCell s0 (p := ⟨w.heap.size + 2, 2, none⟩) (show w.heap.size ≤ w.heap.size + 2 by omega) (.string x.text)
 have s2 := Below.setCell s1 (p := ⟨w.heap.size + 2, 5, none⟩) (show w.heap.size ≤ w.heap.size + 2 by omega) (.int .i64 x.from_)
 have s3 := Below.setCell s2 (p := ⟨w.heap.size + 2, 6, none⟩) (show w.heap.size ≤ w.heap.size + 2 by omega) (.int .i64 x.until_)
 have HW2 := Lib.hid s3
 clear s0 s1 s2 s3
 have HI := Lib.hid (And.intro (cmd_info (only4_size x)) (show (only4 x).all (·.oneCell') = true by rw [show (only4 x) = #[.int .i64 4, .string x.state, .string x.text, .int .i64 0, .int .i64 0, .int .i64 x.from_, .int .i64 x.until_, .int .i64 0, .int .i64 0, .int .i64 0, .int .i64 0, .int .i64 0, .int .i64 0, .string ⟨#[]⟩, .bool false, .bool false, .string ⟨#[]⟩, .int .i64 0, .string ⟨#[]⟩, .string ⟨#[]⟩, .string ⟨#[]⟩, .slice none 0 0] by simp [only4, kindZ]]; simp [Value.oneCell']))
 have HSZ := Lib.hid (only4_size x)
 clear hk h1 h2 h5 h6 HA HZ HO HW
 go_upto_region 37 with fail
 generalize hx : ((((wb.setCell ⟨w.heap.size + 2, 1, none⟩ (.string x.state)).setCell ⟨w.heap.size + 2, 2, none⟩ (.string x.text)).setCell ⟨w.heap.size + 2, 5, none⟩ (.int .i64 x.from_)).setCell ⟨w.heap.size + 2, 6, none⟩ (.int .i64 x.until_)) = wc at HB HZ2 HW2 ⊢
 clear hx c1 o1 f1 c2 o2 f2 c5 o5 f5 c6 o6 f6
 go_wp2_with ((with_reducible refine wpList_load_row (o := ⟨some 98, _, _, _, _, _⟩) ?a1 28 (.tmp 3) ?a2 (w.heap.size + 2) ?a3 28 (only4 x) (0, 0) _ HB.out Tryz.underlying28 ?a4 HI.out.1 ?_); (case a1 => rfl); (case a2 => rfl); (case a3 => rfl); (case a4 => rfl); refine Stop.out ?_)
 unfold Stop
 go_wp2_with ((with_reducible refine wpList_store_row (o := ⟨none, _, _, _, _, _⟩) ?b1 28 (.tmp 2) (.tmp 98) ?b2 (w.heap.size + 1) (only4 x) ?b3 ?b4 28 zeroCmd HZ2.out HI.out.1 ?b5 HI.out.2 ?_); (case b1 => rfl); (case b2 => rfl); (case b3 => rfl); (case b4 => rfl); (case b5 => exact HSZ.out.symm); have HP9 := Lib.hid (setRow_heap wc (w.heap.size + 1) _ (only4 x) _ _ HZ2.out); have HB9 := Lib.hid (below_setRow HW2.out (g := w.heap.size + 1) (by omega) (only4 x)); refine Stop.out ?_)
 unfold Stop
 go_wp2
 exact bodyPost_ret (v := .agg (only4 x)) (results_cell_row Tryz.results23 _ _ (w.heap.size + 1) 28 (only4 x) (0, 0) _ rfl HP9.out Tryz.underlying28 rfl HI.out.1) rfl ⟨rfl, HB9.out⟩
end Go.Proofs.YtmjjenemokojjaaGreat

namespace Go.Proofs.YtmjjenemokojjaaGreat
open Go.RowKit
set_option maxRecDepth 100000
set_option linter.unusedSimpArgs false
set_option linter.unusedVariables false

def EncP (w : World) (T : Text) (e : Ending) (w1 : World) : Prop := Below w.heap.size w w1 ∧ ∃ A c, e = .returned (.tuple #[.slice A T.length c, .int .i64 0]) ∧ Txt w1 A T ∧ (A = none → T = [])
set_option maxHeartbeats 1000000 in
theorem encode_ok (cs : Array Value) (T : Text) (w : World) (hs : cs.size = 22) (HGd : Hid (∀ W, Below w.heap.size w W → Calls Tryz.prog 8 #[.agg cs] W fun e w1 => e = .returned (.bool true) ∧ Below W.heap.size W w1)) (HWt : Hid (∀ (W : World) (g : Nat) (v : Value), Below w.heap.size w W → Wrt W (w.heap.size + 1) g (some []) v → w.heap.size + 1 ≤ W.heap.size → Calls Tryz.prog 39 #[.pointer (some ⟨g, 0, none⟩), .agg cs] W (Wrote W (w.heap.size + 1) g (some T)))) (hT : T.length ≤ 140737488000000) : Calls Tryz.prog 14 #[.agg cs] w fun e w1 => EncP w T e w1 := by
 have HX := Lib.hid (heap_alloc_new w (.cells cs 28))
 have HB0 := Lib.hid (below_alloc w (.cells cs 28))
 have HI := Lib.hid (cmd_info hs)
 have HT := Lib.hid hT
 have hsz : w.heap.size + 1 = (w.alloc (.cells cs 28)).heap.size := by simp
 clear hs hT
 go_enter Tryz.func14, Tryz.ntmps14
 go_wp2_with ((with_reducible refine wpList_load_row (o := ⟨some 5, _, _, _, _, _⟩) ?a1 28 (.tmp 1) ?a2 w.heap.size ?a3 28 cs (0, 0) _ HX.out Tryz.underlying28 ?a4 HI.out ?_); (case a1 => rfl); (case a2 => rfl); (case a3 => rfl); (case a4 => rfl); refine Stop.out ?_)
 unfold Stop
 go_wp2_with (go_at_call 8; refine (HGd.out _ HB0.out).mono ?_; rintro e w1 ⟨rfl, hb⟩; have HX1 := Lib.hid (heap_on hb HX.out); have HB1 := Lib.hid (below_then HB0.out hb); have HN : Hid (w.heap.size + 1 ≤ w1.heap.size) := Lib.hid (by have := hb.size; simp at this; omega); clear hb hsz; refine Stop.out ?_)
 unfold Stop
 have HW2 := Lib.hid (new_wrt w1 (w.heap.size + 1) HN.out)
 have HX2 := Lib.hid (heap_on (below_alloc w1 (.cells #[.bool true, .bool false, .slice none 0 0] 84)) HX1.out)
 have HB2 := Lib.hid (below_then HB1.out (below_alloc w1 (.cells #[.bool true, .bool false, .slice none 0 0] 84)))
 have HN2 : Hid (w.heap.size + 1 ≤ (w1.alloc (.cells #[.bool true, .bool false, .slice none 0 0] 84)).heap.size) := Lib.hid (by have := HN.out; simp; omega)
 go_wp2_with (go_at_call 38; refine (new_any w1).mono ?_; rintro e w2 ⟨rfl, rfl⟩; refine Stop.out ?_)
 unfold Stop
 generalize hx : World.alloc w1 (.cells #[.bool true, .bool false, .slice none 0 0] 84) = w2 at HW2 HX2 HB2 HN2 ⊢
 clear hx
 generalize w1.heap.size = g at HW2 ⊢
 go_wp2_with ((with_reducible refine wpList_load_row (o := ⟨some 10, _, _, _, _, _⟩) ?a1 28 (.tmp 1) ?a2 w.heap.size ?a3 28 cs (0, 0) _ HX2.out Tryz.underlying28 ?a4 HI.out ?_); (case a1 => rfl); (case a2 => rfl); (case a3 => rfl); (case a4 => rfl); refine Stop.out ?_)
 unfold Stop
 go_wp2_with (go_at_call 39; refine (HWt.out w2 g _ HB2.out HW2.out HN2.out).mono ?_; rintro e w3 ⟨rfl, ⟨v3, hw3⟩, hb⟩; have HW3 := Lib.hid hw3; have HB3 := Lib.hid (HB2.out.trans (hb.mono (Nat.le_succ _))); clear hw3 hb; refine Stop.out ?_)
 unfold Stop
 go_wp2_with (go_at_call 40; refine (code_bytes _ _ _ _ _ HW3.out HT.out).mono ?_; rintro e w4 ⟨hb, A, c, rfl, ht, hn⟩; have HB4 := Lib.hid (below_then HB3.out hb); have HQ := Lib.hid (And.intro ht hn); clear hb ht hn)
 go_ret2
 exact ⟨HB4.out, A, c, rfl, HQ.out⟩
theorem year_bytes : nextS (nextS (some []) (docN 11)) (docN 2024) = some [1, 11, 2, 7, 232] := by decide +kernel
theorem encode_year (w : World) : Calls Tryz.prog 14 #[.agg #[.int .i64 11, .string ⟨#[]⟩, .string ⟨#[]⟩, .int .i64 0, .int .i64 0, .int .i64 0, .int .i64 0, .int .i64 0, .int .i64 0, .int .i64 0, .int .i64 3, .int .i64 2024, .int .i64 1, .string ⟨#[]⟩, .bool false, .bool false, .string ⟨#[]⟩, .int .i64 0, .string ⟨#[]⟩, .string ⟨#[]⟩, .string ⟨#[]⟩, .slice none 0 0]] w (EncP w [1, 11, 2, 7, 232]) :=
 encode_ok #[.int .i64 11, .string ⟨#[]⟩, .string ⟨#[]⟩, .int .i64 0, .int .i64 0, .int .i64 0, .int .i64 0, .int .i64 0, .int .i64 0, .int .i64 0, .int .i64 3, .int .i64 2024, .int .i64 1, .string ⟨#[]⟩, .bool false, .bool false, .string ⟨#[]⟩, .int .i64 0, .string ⟨#[]⟩, .string ⟨#[]⟩, .string ⟨#[]⟩, .slice none 0 0] [1, 11, 2, 7, 232] w rfl (Lib.hid (fun W _ => good_year W))
  (Lib.hid (fun W g v _ hw hB => by
   have h := write_11 #[.int .i64 11, .string ⟨#[]⟩, .string ⟨#[]⟩, .int .i64 0, .int .i64 0, .int .i64 0, .int .i64 0, .int .i64 0, .int .i64 0, .int .i64 0, .int .i64 3, .int .i64 2024, .int .i64 1, .string ⟨#[]⟩, .bool false, .bool false, .string ⟨#[]⟩, .int .i64 0, .string ⟨#[]⟩, .string ⟨#[]⟩, .string ⟨#[]⟩, .slice none 0 0] 2024 (w.heap.size + 1) g (some []) v W hw hB rfl rfl (by decide) (by decide) (by decide) (by decide +kernel)
   rw [year_bytes] at h
   exact h)) (by decide)
end Go.Proofs.YtmjjenemokojjaaGreat
