/- Commands with the fields alone that their kind names: the document's. A text's bytes and a flag's: the document's own. -/
import Derived.Test.YtmjjenemokojjaaGreatD41
import Derived.WalkMore
import Derived.Test.YtmjjenemokojjaaGreatD4
import Derived.Test.YtmjjenemokojjaaGreatD1
import Derived.Test.YtmjjenemokojjaaGreatD40
namespace Go.Proofs.YtmjjenemokojjaaGreat
open Go.RowKit
set_option maxRecDepth 100000
set_option linter.unusedSimpArgs false
set_option linter.unusedVariables false

def only9 (x : CmdV) : Array Value := ((((kindZ 9).setIfInBounds 10 (.int .i64 x.pk)).setIfInBounds 11 (.int .i64 x.py)).setIfInBounds 12 (.int .i64 x.pi))
theorem only9_size (x : CmdV) : (only9 x).size = 22 := by unfold only9; simp [kindZ_size]
set_option maxHeartbeats 2000000 in
theorem bare_9 (cs : Array Value) (x : CmdV) (w : World) (hk : cs[0]? = some (.int .i64 9)) (h10 : cs[10]? = some (.int .i64 x.pk)) (h11 : cs[11]? = some (.int .i64 x.py)) (h12 : cs[12]? = some (.int .i64 x.pi)) : Calls Tryz.prog 23 #[.agg cs] w fun e w1 => e = .returned (.agg (only9 x)) ∧ Below w.heap.size w w1 := by
 have hb0 := heap_alloc_new w (.cells cs 28)
 have hb1 := heap_alloc_new (w.alloc (.cells cs 28)) (.cells zeroCmd 28)
 simp only [World.size_alloc] at hb1
 have HA := Lib.hid (heap_on (below_alloc (w.alloc (.cells cs 28)) (.cells zeroCmd 28)) hb0)
 have HZ := Lib.hid hb1
 have HW := Lib.hid (show Below w.heap.size w ((w.alloc (.cells cs 28)).alloc (.cells zeroCmd 28)) from below_more (below_alloc _ _))
 have HN : Hid (((w.alloc (.cells cs 28)).alloc (.cells zeroCmd 28)).heap.size = w.heap.size + 2) := Lib.hid (by simp)
 have a0 : ((w.alloc (.cells cs 28)).alloc (.cells zeroCmd 28)).cell? ⟨w.heap.size, 0, none⟩ = some (.int .i64 9) := (cell_of_row _ _ 0 _ _ _ HA.out).trans hk
 clear hb0 hb1
 go_enter Tryz.func23, Tryz.ntmps23
 go_upto_region 1 with fail
 generalize World.alloc (World.alloc w _) _ = w2 at HA HZ HW HN a0 ⊢
 have hN := HN.out
 have HX2 : Hid ((w2.alloc (.cells zeroCmd 28)).heap[w.heap.size + 2]? = some (.cells zeroCmd 28 (0, 0))) := Lib.hid (by rw [← hN]; exact heap_alloc_new w2 _)
 have HO1 : Hid ((kindZ 9).all (·.oneCell') = true) := Lib.hid (by simp [Value.oneCell', kindZ])
 have HA2 := Lib.hid (heap_on (below_alloc w2 (.cells zeroCmd 28)) HA.out)
 have HZ2 := Lib.hid (heap_on (below_alloc w2 (.cells zeroCmd 28)) HZ.out)
 have HW2 := Lib.hid (below_then HW.out (below_alloc w2 (.cells zeroCmd 28)))
 go_wp2_with ((with_reducible refine wpList_store_row (o := ⟨none, _, _, _, _, _⟩) ?b1 28 (.tmp 3) (.tmp 6) ?b2 (w.heap.size + 2) (kindZ 9) ?b3 ?b4 28 zeroCmd HX2.out ?b5 ?b6 ?b7 ?_); (case b1 => rfl); (case b2 => rfl); (case b3 => rfl); (case b4 => rfl); (case b5 => exact cmd_info rfl); (case b6 => rfl); (case b7 => exact HO1.out); refine Stop.out ?_)
 unfold Stop
 have HO := Lib.hid (setRow_heap (w2.alloc (.cells zeroCmd 28)) (w.heap.size + 2) _ (kindZ 9) _ _ HX2.out)
 have HA3 := Lib.hid ((setRow_other (w2.alloc (.cells zeroCmd 28)) (w.heap.size + 2) w.heap.size (kindZ 9) (by omega)).trans HA2.out)
 have HZ3 := Lib.hid ((setRow_other (w2.alloc (.cells zeroCmd 28)) (w.heap.size + 2) (w.heap.size + 1) (kindZ 9) (by omega)).trans HZ2.out)
 have HW3 := Lib.hid (below_setRow HW2.out (g := w.heap.size + 2) (by omega) (kindZ 9))
 generalize World.setRow _ _ _ = wb at HO HA3 HZ3 HW3 ⊢
 clear HA HZ HW HN hN HX2 HO1 HA2 HZ2 HW2 a0
 have HA := HA3
 have HZ := HZ3
 have HW := HW3
 clear HA3 HZ3 HW3
 have HO2 : Hid (wb.heap[w.heap.size + 2]? = some (.cells (kindZ 9) 28 (0, 0))) := HO
 clear HO
 have HO := HO2
 clear HO2
 have a0 : wb.cell? ⟨w.heap.size, 0, none⟩ = some (.int .i64 9) := (cell_of_row _ _ 0 _ _ _ HA.out).trans hk
 generalize Value.agg (kindZ 9) = vk
 go_upto_region 36 with fail
 clear a0
 have c10 := (cell_of_row wb w.heap.size 10 _ _ _ HA.out).trans h10
 have o10 : wb.cell? ⟨w.heap.size + 2, 10, none⟩ = some (.int .i64 0) := (cell_of_row wb (w.heap.size + 2) 10 _ _ _ HO.out).trans rfl
 have f10 := frozen_of_row wb (w.heap.size + 2) 10 _ _ HO.out
 have c11 := (cell_of_row wb w.heap.size 11 _ _ _ HA.out).trans h11
 have o11 : wb.cell? ⟨w.heap.size + 2, 11, none⟩ = some (.int .i64 0) := (cell_of_row wb (w.heap.size + 2) 11 _ _ _ HO.out).trans rfl
 have f11 := frozen_of_row wb (w.heap.size + 2) 11 _ _ HO.out
 have c12 := (cell_of_row wb w.heap.size 12 _ _ _ HA.out).trans h12
 have o12 : wb.cell? ⟨w.heap.size + 2, 12, none⟩ = some (.int .i64 0) := (cell_of_row wb (w.heap.size + 2) 12 _ _ _ HO.out).trans rfl
 have f12 := frozen_of_row wb (w.heap.size + 2) 12 _ _ HO.out
 have q0 : ((wb.setCell ⟨w.heap.size + 2, 10, none⟩ (.int .i64 x.pk))).heap[w.heap.size + 2]? = some (.cells ((kindZ 9).setIfInBounds 10 (.int .i64 x.pk)) 28 (0, 0)) := heap_setCell_same _ (w.heap.size + 2) 10 _ _ _ HO.out
 have q1 : (((wb.setCell ⟨w.heap.size + 2, 10, none⟩ (.int .i64 x.pk)).setCell ⟨w.heap.size + 2, 11, none⟩ (.int .i64 x.py))).heap[w.heap.size + 2]? = some (.cells (((kindZ 9).setIfInBounds 10 (.int .i64 x.pk)).setIfInBounds 11 (.int .i64 x.py)) 28 (0, 0)) := heap_setCell_same _ (w.heap.size + 2) 11 _ _ _ q0
 have q2 : ((((wb.setCell ⟨w.heap.size + 2, 10, none⟩ (.int .i64 x.pk)).setCell ⟨w.heap.size + 2, 11, none⟩ (.int .i64 x.py)).setCell ⟨w.heap.size + 2, 12, none⟩ (.int .i64 x.pi))).heap[w.heap.size + 2]? = some (.cells ((((kindZ 9).setIfInBounds 10 (.int .i64 x.pk)).setIfInBounds 11 (.int .i64 x.py)).setIfInBounds 12 (.int .i64 x.pi)) 28 (0, 0)) := heap_setCell_same _ (w.heap.size + 2) 12 _ _ _ q1
 have HB := Lib.hid (show ((((wb.setCell ⟨w.heap.size + 2, 10, none⟩ (.int .i64 x.pk)).setCell ⟨w.heap.size + 2, 11, none⟩ (.int .i64 x.py)).setCell ⟨w.heap.size + 2, 12, none⟩ (.int .i64 x.pi))).heap[w.heap.size + 2]? = some (.cells (only9 x) 28 (0, 0)) from q2)
 clear q0 q1 q2
 have HZ2 : Hid (((((wb.setCell ⟨w.heap.size + 2, 10, none⟩ (.int .i64 x.pk)).setCell ⟨w.heap.size + 2, 11, none⟩ (.int .i64 x.py)).setCell ⟨w.heap.size + 2, 12, none⟩ (.int .i64 x.pi))).heap[w.heap.size + 1]? = some (.cells zeroCmd 28 (0, 0))) := Lib.hid ((heap_setCell_other _ ⟨w.heap.size + 2, 12, none⟩ (w.heap.size + 1) (.int .i64 x.pi) (by simp)).trans ((heap_setCell_other _ ⟨w.heap.size + 2, 11, none⟩ (w.heap.size + 1) (.int .i64 x.py) (by simp)).trans ((heap_setCell_other _ ⟨w.heap.size + 2, 10, none⟩ (w.heap.size + 1) (.int .i64 x.pk) (by simp)).trans HZ.out)))
 have s0 := Below.setCell HW.out (p := ⟨w.heap.size + 2, 10, none⟩) (show w.heap.size ≤ w.heap.size + 2 by omega) (.int .i64 x.pk)
 have s1 := Below.setCell s0 (p := ⟨w.heap.size + 2, 11, none⟩) (show w.heap.size ≤ w.heap.size + 2 by omega) (.int .i64 x.py)
 have s2 := Below.setCell s1 (p := ⟨w.heap.size + 2, 12, none⟩) (show w.heap.size ≤ w.heap.size + 2 by omega) (.int .i64 x.pi)
 have HW2 := Lib.hid s2
 clear s0 s1 s2
 have HI := Lib.hid (And.intro (cmd_info (only9_size x)) (show (only9 x).all (·.oneCell') = true by rw [show (only9 x) = #[.int .i64 9, .string ⟨#[]⟩, .string ⟨#[]⟩, .int .i64 0, .int .i64 0, .int .i64 0, .int .i64 0, .int .i64 0, .int .i64 0, .int .i64 0, .int .i64 x.pk, .int .i64 x.py, .int .i64 x.pi, .string ⟨#[]⟩, .bool false, .bool false, .string ⟨#[]⟩, .int .i64 0, .string ⟨#[]⟩, .string ⟨#[]⟩, .string ⟨#[]⟩, .slice none 0 0] by simp [only9, kindZ]]; simp [Value.oneCell']))
 have HSZ := Lib.hid (only9_size x)
 clear hk h10 h11 h12 HA HZ HO HW
 go_upto_region 37 with fail
 generalize hx : (((wb.setCell ⟨w.heap.size + 2, 10, none⟩ (.int .i64 x.pk)).setCell ⟨w.heap.size + 2, 11, none⟩ (.int .i64 x.py)).setCell ⟨w.heap.size + 2, 12, none⟩ (.int .i64 x.pi)) = wc at HB HZ2 HW2 ⊢
 clear hx c10 o10 f10 c11 o11 f11 c12 o12 f12
 go_wp2_with ((with_reducible refine wpList_load_row (o := ⟨some 98, _, _, _, _, _⟩) ?a1 28 (.tmp 3) ?a2 (w.heap.size + 2) ?a3 28 (only9 x) (0, 0) _ HB.out Tryz.underlying28 ?a4 HI.out.1 ?_); (case a1 => rfl); (case a2 => rfl); (case a3 => rfl); (case a4 => rfl); refine Stop.out ?_)
 unfold Stop
 go_wp2_with ((with_reducible refine wpList_store_row (o := ⟨none, _, _, _, _, _⟩) ?b1 28 (.tmp 2) (.tmp 98) ?b2 (w.heap.size + 1) (only9 x) ?b3 ?b4 28 zeroCmd HZ2.out HI.out.1 ?b5 HI.out.2 ?_); (case b1 => rfl); (case b2 => rfl); (case b3 => rfl); (case b4 => rfl); (case b5 => exact HSZ.out.symm); have HP9 := Lib.hid (setRow_heap wc (w.heap.size + 1) _ (only9 x) _ _ HZ2.out); have HB9 := Lib.hid (below_setRow HW2.out (g := w.heap.size + 1) (by omega) (only9 x)); refine Stop.out ?_)
 unfold Stop
 go_wp2
 exact bodyPost_ret (v := .agg (only9 x)) (results_cell_row Tryz.results23 _ _ (w.heap.size + 1) 28 (only9 x) (0, 0) _ rfl HP9.out Tryz.underlying28 rfl HI.out.1) rfl ⟨rfl, HB9.out⟩
def only10 (x : CmdV) : Array Value := ((((kindZ 10).setIfInBounds 10 (.int .i64 x.pk)).setIfInBounds 11 (.int .i64 x.py)).setIfInBounds 12 (.int .i64 x.pi))
theorem only10_size (x : CmdV) : (only10 x).size = 22 := by unfold only10; simp [kindZ_size]
set_option maxHeartbeats 2000000 in
theorem bare_10 (cs : Array Value) (x : CmdV) (w : World) (hk : cs[0]? = some (.int .i64 10)) (h10 : cs[10]? = some (.int .i64 x.pk)) (h11 : cs[11]? = some (.int .i64 x.py)) (h12 : cs[12]? = some (.int .i64 x.pi)) : Calls Tryz.prog 23 #[.agg cs] w fun e w1 => e = .returned (.agg (only10 x)) ∧ Below w.heap.size w w1 := by
 have hb0 := heap_alloc_new w (.cells cs 28)
 have hb1 := heap_alloc_new (w.alloc (.cells cs 28)) (.cells zeroCmd 28)
 simp only [World.size_alloc] at hb1
 have HA := Lib.hid (heap_on (below_alloc (w.alloc (.cells cs 28)) (.cells zeroCmd 28)) hb0)
 have HZ := Lib.hid hb1
 have HW := Lib.hid (show Below w.heap.size w ((w.alloc (.cells cs 28)).alloc (.cells zeroCmd 28)) from below_more (below_alloc _ _))
 have HN : Hid (((w.alloc (.cells cs 28)).alloc (.cells zeroCmd 28)).heap.size = w.heap.size + 2) := Lib.hid (by simp)
 have a0 : ((w.alloc (.cells cs 28)).alloc (.cells zeroCmd 28)).cell? ⟨w.heap.size, 0, none⟩ = some (.int .i64 10) := (cell_of_row _ _ 0 _ _ _ HA.out).trans hk
 clear hb0 hb1
 go_enter Tryz.func23, Tryz.ntmps23
 go_upto_region 1 with fail
 generalize World.alloc (World.alloc w _) _ = w2 at HA HZ HW HN a0 ⊢
 have hN := HN.out
 have HX2 : Hid ((w2.alloc (.cells zeroCmd 28)).heap[w.heap.size + 2]? = some (.cells zeroCmd 28 (0, 0))) := Lib.hid (by rw [← hN]; exact heap_alloc_new w2 _)
 have HO1 : Hid ((kindZ 10).all (·.oneCell') = true) := Lib.hid (by simp [Value.oneCell', kindZ])
 have HA2 := Lib.hid (heap_on (below_alloc w2 (.cells zeroCmd 28)) HA.out)
 have HZ2 := Lib.hid (heap_on (below_alloc w2 (.cells zeroCmd 28)) HZ.out)
 have HW2 := Lib.hid (below_then HW.out (below_alloc w2 (.cells zeroCmd 28)))
 go_wp2_with ((with_reducible refine wpList_store_row (o := ⟨none, _, _, _, _, _⟩) ?b1 28 (.tmp 3) (.tmp 6) ?b2 (w.heap.size + 2) (kindZ 10) ?b3 ?b4 28 zeroCmd HX2.out ?b5 ?b6 ?b7 ?_); (case b1 => rfl); (case b2 => rfl); (case b3 => rfl); (case b4 => rfl); (case b5 => exact cmd_info rfl); (case b6 => rfl); (case b7 => exact HO1.out); refine Stop.out ?_)
 unfold Stop
 have HO := Lib.hid (setRow_heap (w2.alloc (.cells zeroCmd 28)) (w.heap.size + 2) _ (kindZ 10) _ _ HX2.out)
 have HA3 := Lib.hid ((setRow_other (w2.alloc (.cells zeroCmd 28)) (w.heap.size + 2) w.heap.size (kindZ 10) (by omega)).trans HA2.out)
 have HZ3 := Lib.hid ((setRow_other (w2.alloc (.cells zeroCmd 28)) (w.heap.size + 2) (w.heap.size + 1) (kindZ 10) (by omega)).trans HZ2.out)
 have HW3 := Lib.hid (below_setRow HW2.out (g := w.heap.size + 2) (by omega) (kindZ 10))
 generalize World.setRow _ _ _ = wb at HO HA3 HZ3 HW3 ⊢
 clear HA HZ HW HN hN HX2 HO1 HA2 HZ2 HW2 a0
 have HA := HA3
 have HZ := HZ3
 have HW := HW3
 clear HA3 HZ3 HW3
 have HO2 : Hid (wb.heap[w.heap.size + 2]? = some (.cells (kindZ 10) 28 (0, 0))) := HO
 clear HO
 have HO := HO2
 clear HO2
 have a0 : wb.cell? ⟨w.heap.size, 0, none⟩ = some (.int .i64 10) := (cell_of_row _ _ 0 _ _ _ HA.out).trans hk
 generalize Value.agg (kindZ 10) = vk
 go_upto_region 36 with fail
 clear a0
 have c10 := (cell_of_row wb w.heap.size 10 _ _ _ HA.out).trans h10
 have o10 : wb.cell? ⟨w.heap.size + 2, 10, none⟩ = some (.int .i64 0) := (cell_of_row wb (w.heap.size + 2) 10 _ _ _ HO.out).trans rfl
 have f10 := frozen_of_row wb (w.heap.size + 2) 10 _ _ HO.out
 have c11 := (cell_of_row wb w.heap.size 11 _ _ _ HA.out).trans h11
 have o11 : wb.cell? ⟨w.heap.size + 2, 11, none⟩ = some (.int .i64 0) := (cell_of_row wb (w.heap.size + 2) 11 _ _ _ HO.out).trans rfl
 have f11 := frozen_of_row wb (w.heap.size + 2) 11 _ _ HO.out
 have c12 := (cell_of_row wb w.heap.size 12 _ _ _ HA.out).trans h12
 have o12 : wb.cell? ⟨w.heap.size + 2, 12, none⟩ = some (.int .i64 0) := (cell_of_row wb (w.heap.size + 2) 12 _ _ _ HO.out).trans rfl
 have f12 := frozen_of_row wb (w.heap.size + 2) 12 _ _ HO.out
 have q0 : ((wb.setCell ⟨w.heap.size + 2, 10, none⟩ (.int .i64 x.pk))).heap[w.heap.size + 2]? = some (.cells ((kindZ 10).setIfInBounds 10 (.int .i64 x.pk)) 28 (0, 0)) := heap_setCell_same _ (w.heap.size + 2) 10 _ _ _ HO.out
 have q1 : (((wb.setCell ⟨w.heap.size + 2, 10, none⟩ (.int .i64 x.pk)).setCell ⟨w.heap.size + 2, 11, none⟩ (.int .i64 x.py))).heap[w.heap.size + 2]? = some (.cells (((kindZ 10).setIfInBounds 10 (.int .i64 x.pk)).setIfInBounds 11 (.int .i64 x.py)) 28 (0, 0)) := heap_setCell_same _ (w.heap.size + 2) 11 _ _ _ q0
 have q2 : ((((wb.setCell ⟨w.heap.size + 2, 10, none⟩ (.int .i64 x.pk)).setCell ⟨w.heap.size + 2, 11, none⟩ (.int .i64 x.py)).setCell ⟨w.heap.size + 2, 12, none⟩ (.int .i64 x.pi))).heap[w.heap.size + 2]? = some (.cells ((((kindZ 10).setIfInBounds 10 (.int .i64 x.pk)).setIfInBounds 11 (.int .i64 x.py)).setIfInBounds 12 (.int .i64 x.pi)) 28 (0, 0)) := heap_setCell_same _ (w.heap.size + 2) 12 _ _ _ q1
 have HB := Lib.hid (show ((((wb.setCell ⟨w.heap.size + 2, 10, none⟩ (.int .i64 x.pk)).setCell ⟨w.heap.size + 2, 11, none⟩ (.int .i64 x.py)).setCell ⟨w.heap.size + 2, 12, none⟩ (.int .i64 x.pi))).heap[w.heap.size + 2]? = some (.cells (only10 x) 28 (0, 0)) from q2)
 clear q0 q1 q2
 have HZ2 : Hid (((((wb.setCell ⟨w.heap.size + 2, 10, none⟩ (.int .i64 x.pk)).setCell ⟨w.heap.size + 2, 11, none⟩ (.int .i64 x.py)).setCell ⟨w.heap.size + 2, 12, none⟩ (.int .i64 x.pi))).heap[w.heap.size + 1]? = some (.cells zeroCmd 28 (0, 0))) := Lib.hid ((heap_setCell_other _ ⟨w.heap.size + 2, 12, none⟩ (w.heap.size + 1) (.int .i64 x.pi) (by simp)).trans ((heap_setCell_other _ ⟨w.heap.size + 2, 11, none⟩ (w.heap.size + 1) (.int .i64 x.py) (by simp)).trans ((heap_setCell_other _ ⟨w.heap.size + 2, 10, none⟩ (w.heap.size + 1) (.int .i64 x.pk) (by simp)).trans HZ.out)))
 have s0 := Below.setCell HW.out (p := ⟨w.heap.size + 2, 10, none⟩) (show w.heap.size ≤ w.heap.size + 2 by omega) (.int .i64 x.pk)
 have s1 := Below.setCell s0 (p := ⟨w.heap.size + 2, 11, none⟩) (show w.heap.size ≤ w.heap.size + 2 by omega) (.int .i64 x.py)
 have s2 := Below.setCell s1 (p := ⟨w.heap.size + 2, 12, none⟩) (show w.heap.size ≤ w.heap.size + 2 by omega) (.int .i64 x.pi)
 have HW2 := Lib.hid s2
 clear s0 s1 s2
 have HI := Lib.hid (And.intro (cmd_info (only10_size x)) (show (only10 x).all (·.oneCell') = true by rw [show (only10 x) = #[.int .i64 10, .string ⟨#[]⟩, .string ⟨#[]⟩, .int .i64 0, .int .i64 0, .int .i64 0, .int .i64 0, .int .i64 0, .int .i64 0, .int .i64 0, .int .i64 x.pk, .int .i64 x.py, .int .i64 x.pi, .string ⟨#[]⟩, .bool false, .bool false, .string ⟨#[]⟩, .int .i64 0, .string ⟨#[]⟩, .string ⟨#[]⟩, .string ⟨#[]⟩, .slice none 0 0] by simp [only10, kindZ]]; simp [Value.oneCell']))
 have HSZ := Lib.hid (only10_size x)
 clear hk h10 h11 h12 HA HZ HO HW
 go_upto_region 37 with fail
 generalize hx : (((wb.setCell ⟨w.heap.size + 2, 10, none⟩ (.int .i64 x.pk)).setCell ⟨w.heap.size + 2, 11, none⟩ (.int .i64 x.py)).setCell ⟨w.heap.size + 2, 12, none⟩ (.int .i64 x.pi)) = wc at HB HZ2 HW2 ⊢
 clear hx c10 o10 f10 c11 o11 f11 c12 o12 f12
 go_wp2_with ((with_reducible refine wpList_load_row (o := ⟨some 98, _, _, _, _, _⟩) ?a1 28 (.tmp 3) ?a2 (w.heap.size + 2) ?a3 28 (only10 x) (0, 0) _ HB.out Tryz.underlying28 ?a4 HI.out.1 ?_); (case a1 => rfl); (case a2 => rfl); (case a3 => rfl); (case a4 => rfl); refine Stop.out ?_)
 unfold Stop
 go_wp2_with ((with_reducible refine wpList_store_row (o := ⟨none, _, _, _, _, _⟩) ?b1 28 (.tmp 2) (.tmp 98) ?b2 (w.heap.size + 1) (only10 x) ?b3 ?b4 28 zeroCmd HZ2.out HI.out.1 ?b5 HI.out.2 ?_); (case b1 => rfl); (case b2 => rfl); (case b3 => rfl); (case b4 => rfl); (case b5 => exact HSZ.out.symm); have HP9 := Lib.hid (setRow_heap wc (w.heap.size + 1) _ (only10 x) _ _ HZ2.out); have HB9 := Lib.hid (below_setRow HW2.out (g := w.heap.size + 1) (by omega) (only10 x)); refine Stop.out ?_)
 unfold Stop
 go_wp2
 exact bodyPost_ret (v := .agg (only10 x)) (results_cell_row Tryz.results23 _ _ (w.heap.size + 1) 28 (only10 x) (0, 0) _ rfl HP9.out Tryz.underlying28 rfl HI.out.1) rfl ⟨rfl, HB9.out⟩
def only11 (x : CmdV) : Array Value := ((((kindZ 11).setIfInBounds 10 (.int .i64 x.pk)).setIfInBounds 11 (.int .i64 x.py)).setIfInBounds 12 (.int .i64 x.pi))
theorem only11_size (x : CmdV) : (only11 x).size = 22 := by unfold only11; simp [kindZ_size]
set_option maxHeartbeats 2000000 in
theorem bare_11 (cs : Array Value) (x : CmdV) (w : World) (hk : cs[0]? = some (.int .i64 11)) (h10 : cs[10]? = some (.int .i64 x.pk)) (h11 : cs[11]? = some (.int .i64 x.py)) (h12 : cs[12]? = some (.int .i64 x.pi)) : Calls Tryz.prog 23 #[.agg cs] w fun e w1 => e = .returned (.agg (only11 x)) ∧ Below w.heap.size w w1 := by
 have hb0 := heap_alloc_new w (.cells cs 28)
 have hb1 := heap_alloc_new (w.alloc (.cells cs 28)) (.cells zeroCmd 28)
 simp only [World.size_alloc] at hb1
 have HA := Lib.hid (heap_on (below_alloc (w.alloc (.cells cs 28)) (.cells zeroCmd 28)) hb0)
 have HZ := Lib.hid hb1
 have HW := Lib.hid (show Below w.heap.size w ((w.alloc (.cells cs 28)).alloc (.cells zeroCmd 28)) from below_more (below_alloc _ _))
 have HN : Hid (((w.alloc (.cells cs 28)).alloc (.cells zeroCmd 28)).heap.size = w.heap.size + 2) := Lib.hid (by simp)
 have a0 : ((w.alloc (.cells cs 28)).alloc (.cells zeroCmd 28)).cell? ⟨w.heap.size, 0, none⟩ = some (.int .i64 11) := (cell_of_row _ _ 0 _ _ _ HA.out).trans hk
 clear hb0 hb1
 go_enter Tryz.func23, Tryz.ntmps23
 go_upto_region 1 with fail
 generalize World.alloc (World.alloc w _) _ = w2 at HA HZ HW HN a0 ⊢
 have hN := HN.out
 have HX2 : Hid ((w2.alloc (.cells zeroCmd 28)).heap[w.heap.size + 2]? = some (.cells zeroCmd 28 (0, 0))) := Lib.hid (by rw [← hN]; exact heap_alloc_new w2 _)
 have HO1 : Hid ((kindZ 11).all (·.oneCell') = true) := Lib.hid (by simp [Value.oneCell', kindZ])
 have HA2 := Lib.hid (heap_on (below_alloc w2 (.cells zeroCmd 28)) HA.out)
 have HZ2 := Lib.hid (heap_on (below_alloc w2 (.cells zeroCmd 28)) HZ.out)
 have HW2 := Lib.hid (below_then HW.out (below_alloc w2 (.cells zeroCmd 28)))
 go_wp2_with ((with_reducible refine wpList_store_row (o := ⟨none, _, _, _, _, _⟩) ?b1 28 (.tmp 3) (.tmp 6) ?b2 (w.heap.size + 2) (kindZ 11) ?b3 ?b4 28 zeroCmd HX2.out ?b5 ?b6 ?b7 ?_); (case b1 => rfl); (case b2 => rfl); (case b3 => rfl); (case b4 => rfl); (case b5 => exact cmd_info rfl); (case b6 => rfl); (case b7 => exact HO1.out); refine Stop.out ?_)
 unfold Stop
 have HO := Lib.hid (setRow_heap (w2.alloc (.cells zeroCmd 28)) (w.heap.size + 2) _ (kindZ 11) _ _ HX2.out)
 have HA3 := Lib.hid ((setRow_other (w2.alloc (.cells zeroCmd 28)) (w.heap.size + 2) w.heap.size (kindZ 11) (by omega)).trans HA2.out)
 have HZ3 := Lib.hid ((setRow_other (w2.alloc (.cells zeroCmd 28)) (w.heap.size + 2) (w.heap.size + 1) (kindZ 11) (by omega)).trans HZ2.out)
 have HW3 := Lib.hid (below_setRow HW2.out (g := w.heap.size + 2) (by omega) (kindZ 11))
 generalize World.setRow _ _ _ = wb at HO HA3 HZ3 HW3 ⊢
 clear HA HZ HW HN hN HX2 HO1 HA2 HZ2 HW2 a0
 have HA := HA3
 have HZ := HZ3
 have HW := HW3
 clear HA3 HZ3 HW3
 have HO2 : Hid (wb.heap[w.heap.size + 2]? = some (.cells (kindZ 11) 28 (0, 0))) := HO
 clear HO
 have HO := HO2
 clear HO2
 have a0 : wb.cell? ⟨w.heap.size, 0, none⟩ = some (.int .i64 11) := (cell_of_row _ _ 0 _ _ _ HA.out).trans hk
 generalize Value.agg (kindZ 11) = vk
 go_upto_region 36 with fail
 clear a0
 have c10 := (cell_of_row wb w.heap.size 10 _ _ _ HA.out).trans h10
 have o10 : wb.cell? ⟨w.heap.size + 2, 10, none⟩ = some (.int .i64 0) := (cell_of_row wb (w.heap.size + 2) 10 _ _ _ HO.out).trans rfl
 have f10 := frozen_of_row wb (w.heap.size + 2) 10 _ _ HO.out
 have c11 := (cell_of_row wb w.heap.size 11 _ _ _ HA.out).trans h11
 have o11 : wb.cell? ⟨w.heap.size + 2, 11, none⟩ = some (.int .i64 0) := (cell_of_row wb (w.heap.size + 2) 11 _ _ _ HO.out).trans rfl
 have f11 := frozen_of_row wb (w.heap.size + 2) 11 _ _ HO.out
 have c12 := (cell_of_row wb w.heap.size 12 _ _ _ HA.out).trans h12
 have o12 : wb.cell? ⟨w.heap.size + 2, 12, none⟩ = some (.int .i64 0) := (cell_of_row wb (w.heap.size + 2) 12 _ _ _ HO.out).trans rfl
 have f12 := frozen_of_row wb (w.heap.size + 2) 12 _ _ HO.out
 have q0 : ((wb.setCell ⟨w.heap.size + 2, 10, none⟩ (.int .i64 x.pk))).heap[w.heap.size + 2]? = some (.cells ((kindZ 11).setIfInBounds 10 (.int .i64 x.pk)) 28 (0, 0)) := heap_setCell_same _ (w.heap.size + 2) 10 _ _ _ HO.out
 have q1 : (((wb.setCell ⟨w.heap.size + 2, 10, none⟩ (.int .i64 x.pk)).setCell ⟨w.heap.size + 2, 11, none⟩ (.int .i64 x.py))).heap[w.heap.size + 2]? = some (.cells (((kindZ 11).setIfInBounds 10 (.int .i64 x.pk)).setIfInBounds 11 (.int .i64 x.py)) 28 (0, 0)) := heap_setCell_same _ (w.heap.size + 2) 11 _ _ _ q0
 have q2 : ((((wb.setCell ⟨w.heap.size + 2, 10, none⟩ (.int .i64 x.pk)).setCell ⟨w.heap.size + 2, 11, none⟩ (.int .i64 x.py)).setCell ⟨w.heap.size + 2, 12, none⟩ (.int .i64 x.pi))).heap[w.heap.size + 2]? = some (.cells ((((kindZ 11).setIfInBounds 10 (.int .i64 x.pk)).setIfInBounds 11 (.int .i64 x.py)).setIfInBounds 12 (.int .i64 x.pi)) 28 (0, 0)) := heap_setCell_same _ (w.heap.size + 2) 12 _ _ _ q1
 have HB := Lib.hid (show ((((wb.setCell ⟨w.heap.size + 2, 10, none⟩ (.int .i64 x.pk)).setCell ⟨w.heap.size + 2, 11, none⟩ (.int .i64 x.py)).setCell ⟨w.heap.size + 2, 12, none⟩ (.int .i64 x.pi))).heap[w.heap.size + 2]? = some (.cells (only11 x) 28 (0, 0)) from q2)
 clear q0 q1 q2
 have HZ2 : Hid (((((wb.setCell ⟨w.heap.size + 2, 10, none⟩ (.int .i64 x.pk)).setCell ⟨w.heap.size + 2, 11, none⟩ (.int .i64 x.py)).setCell ⟨w.heap.size + 2, 12, none⟩ (.int .i64 x.pi))).heap[w.heap.size + 1]? = some (.cells zeroCmd 28 (0, 0))) := Lib.hid ((heap_setCell_other _ ⟨w.heap.size + 2, 12, none⟩ (w.heap.size + 1) (.int .i64 x.pi) (by simp)).trans ((heap_setCell_other _ ⟨w.heap.size + 2, 11, none⟩ (w.heap.size + 1) (.int .i64 x.py) (by simp)).trans ((heap_setCell_other _ ⟨w.heap.size + 2, 10, none⟩ (w.heap.size + 1) (.int .i64 x.pk) (by simp)).trans HZ.out)))
 have s0 := Below.setCell HW.out (p := ⟨w.heap.size + 2, 10, none⟩) (show w.heap.size ≤ w.heap.size + 2 by omega) (.int .i64 x.pk)
 have s1 := Below.setCell s0 (p := ⟨w.heap.size + 2, 11, none⟩) (show w.heap.size ≤ w.heap.size + 2 by omega) (.int .i64 x.py)
 have s2 := Below.setCell s1 (p := ⟨w.heap.size + 2, 12, none⟩) (show w.heap.size ≤ w.heap.size + 2 by omega) (.int .i64 x.pi)
 have HW2 := Lib.hid s2
 clear s0 s1 s2
 have HI := Lib.hid (And.intro (cmd_info (only11_size x)) (show (only11 x).all (·.oneCell') = true by rw [show (only11 x) = #[.int .i64 11, .string ⟨#[]⟩, .string ⟨#[]⟩, .int .i64 0, .int .i64 0, .int .i64 0, .int .i64 0, .int .i64 0, .int .i64 0, .int .i64 0, .int .i64 x.pk, .int .i64 x.py, .int .i64 x.pi, .string ⟨#[]⟩, .bool false, .bool false, .string ⟨#[]⟩, .int .i64 0, .string ⟨#[]⟩, .string ⟨#[]⟩, .string ⟨#[]⟩, .slice none 0 0] by simp [only11, kindZ]]; simp [Value.oneCell']))
 have HSZ := Lib.hid (only11_size x)
 clear hk h10 h11 h12 HA HZ HO HW
 go_upto_region 37 with fail
 generalize hx : (((wb.setCell ⟨w.heap.size + 2, 10, none⟩ (.int .i64 x.pk)).setCell ⟨w.heap.size + 2, 11, none⟩ (.int .i64 x.py)).setCell ⟨w.heap.size + 2, 12, none⟩ (.int .i64 x.pi)) = wc at HB HZ2 HW2 ⊢
 clear hx c10 o10 f10 c11 o11 f11 c12 o12 f12
 go_wp2_with ((with_reducible refine wpList_load_row (o := ⟨some 98, _, _, _, _, _⟩) ?a1 28 (.tmp 3) ?a2 (w.heap.size + 2) ?a3 28 (only11 x) (0, 0) _ HB.out Tryz.underlying28 ?a4 HI.out.1 ?_); (case a1 => rfl); (case a2 => rfl); (case a3 => rfl); (case a4 => rfl); refine Stop.out ?_)
 unfold Stop
 go_wp2_with ((with_reducible refine wpList_store_row (o := ⟨none, _, _, _, _, _⟩) ?b1 28 (.tmp 2) (.tmp 98) ?b2 (w.heap.size + 1) (only11 x) ?b3 ?b4 28 zeroCmd HZ2.out HI.out.1 ?b5 HI.out.2 ?_); (case b1 => rfl); (case b2 => rfl); (case b3 => rfl); (case b4 => rfl); (case b5 => exact HSZ.out.symm); have HP9 := Lib.hid (setRow_heap wc (w.heap.size + 1) _ (only11 x) _ _ HZ2.out); have HB9 := Lib.hid (below_setRow HW2.out (g := w.heap.size + 1) (by omega) (only11 x)); refine Stop.out ?_)
 unfold Stop
 go_wp2
 exact bodyPost_ret (v := .agg (only11 x)) (results_cell_row Tryz.results23 _ _ (w.heap.size + 1) 28 (only11 x) (0, 0) _ rfl HP9.out Tryz.underlying28 rfl HI.out.1) rfl ⟨rfl, HB9.out⟩
def onlyO (x : CmdV) (k : Int) : Array Value := (kindZ k)
theorem onlyO_size (x : CmdV) (k : Int) : (onlyO x k).size = 22 := by unfold onlyO; simp [kindZ_size]
set_option maxHeartbeats 2000000 in
theorem bare_O (cs : Array Value) (x : CmdV) (k : Int) (w : World) (hk : cs[0]? = some (.int .i64 k)) (hn : k < 1 ∨ 11 < k) : Calls Tryz.prog 23 #[.agg cs] w fun e w1 => e = .returned (.agg (onlyO x k)) ∧ Below w.heap.size w w1 := by
 have hb0 := heap_alloc_new w (.cells cs 28)
 have hb1 := heap_alloc_new (w.alloc (.cells cs 28)) (.cells zeroCmd 28)
 simp only [World.size_alloc] at hb1
 have HA := Lib.hid (heap_on (below_alloc (w.alloc (.cells cs 28)) (.cells zeroCmd 28)) hb0)
 have HZ := Lib.hid hb1
 have HW := Lib.hid (show Below w.heap.size w ((w.alloc (.cells cs 28)).alloc (.cells zeroCmd 28)) from below_more (below_alloc _ _))
 have HN : Hid (((w.alloc (.cells cs 28)).alloc (.cells zeroCmd 28)).heap.size = w.heap.size + 2) := Lib.hid (by simp)
 have a0 : ((w.alloc (.cells cs 28)).alloc (.cells zeroCmd 28)).cell? ⟨w.heap.size, 0, none⟩ = some (.int .i64 k) := (cell_of_row _ _ 0 _ _ _ HA.out).trans hk
 clear hb0 hb1
 go_enter Tryz.func23, Tryz.ntmps23
 go_upto_region 1 with fail
 generalize World.alloc (World.alloc w _) _ = w2 at HA HZ HW HN a0 ⊢
 have hN := HN.out
 have HX2 : Hid ((w2.alloc (.cells zeroCmd 28)).heap[w.heap.size + 2]? = some (.cells zeroCmd 28 (0, 0))) := Lib.hid (by rw [← hN]; exact heap_alloc_new w2 _)
 have HO1 : Hid ((kindZ k).all (·.oneCell') = true) := Lib.hid (by simp [Value.oneCell', kindZ])
 have HA2 := Lib.hid (heap_on (below_alloc w2 (.cells zeroCmd 28)) HA.out)
 have HZ2 := Lib.hid (heap_on (below_alloc w2 (.cells zeroCmd 28)) HZ.out)
 have HW2 := Lib.hid (below_then HW.out (below_alloc w2 (.cells zeroCmd 28)))
 go_wp2_with ((with_reducible refine wpList_store_row (o := ⟨none, _, _, _, _, _⟩) ?b1 28 (.tmp 3) (.tmp 6) ?b2 (w.heap.size + 2) (kindZ k) ?b3 ?b4 28 zeroCmd HX2.out ?b5 ?b6 ?b7 ?_); (case b1 => rfl); (case b2 => rfl); (case b3 => rfl); (case b4 => rfl); (case b5 => exact cmd_info rfl); (case b6 => rfl); (case b7 => exact HO1.out); refine Stop.out ?_)
 unfold Stop
 have HO := Lib.hid (setRow_heap (w2.alloc (.cells zeroCmd 28)) (w.heap.size + 2) _ (kindZ k) _ _ HX2.out)
 have HA3 := Lib.hid ((setRow_other (w2.alloc (.cells zeroCmd 28)) (w.heap.size + 2) w.heap.size (kindZ k) (by omega)).trans HA2.out)
 have HZ3 := Lib.hid ((setRow_other (w2.alloc (.cells zeroCmd 28)) (w.heap.size + 2) (w.heap.size + 1) (kindZ k) (by omega)).trans HZ2.out)
 have HW3 := Lib.hid (below_setRow HW2.out (g := w.heap.size + 2) (by omega) (kindZ k))
 generalize World.setRow _ _ _ = wb at HO HA3 HZ3 HW3 ⊢
 clear HA HZ HW HN hN HX2 HO1 HA2 HZ2 HW2 a0
 have HA := HA3
 have HZ := HZ3
 have HW := HW3
 clear HA3 HZ3 HW3
 have HO2 : Hid (wb.heap[w.heap.size + 2]? = some (.cells (kindZ k) 28 (0, 0))) := HO
 clear HO
 have HO := HO2
 clear HO2
 have a0 : wb.cell? ⟨w.heap.size, 0, none⟩ = some (.int .i64 k) := (cell_of_row _ _ 0 _ _ _ HA.out).trans hk
 generalize Value.agg (kindZ k) = vk
 have e1 : (k == 1) = false := beq_false_of_ne (by omega)
 have e2 : (k == 2) = false := beq_false_of_ne (by omega)
 have e3 : (k == 3) = false := beq_false_of_ne (by omega)
 have e4 : (k == 4) = false := beq_false_of_ne (by omega)
 have e5 : (k == 5) = false := beq_false_of_ne (by omega)
 have e6 : (k == 6) = false := beq_false_of_ne (by omega)
 have e7 : (k == 7) = false := beq_false_of_ne (by omega)
 have e8 : (k == 8) = false := beq_false_of_ne (by omega)
 have e9 : (k == 9) = false := beq_false_of_ne (by omega)
 have e10 : (k == 10) = false := beq_false_of_ne (by omega)
 have e11 : (k == 11) = false := beq_false_of_ne (by omega)
 clear hn
 go_upto_region 37 with fail
 clear a0
 clear e1 e2 e3 e4 e5 e6 e7 e8 e9 e10 e11
 have HB := Lib.hid (show (wb).heap[w.heap.size + 2]? = some (.cells (onlyO x k) 28 (0, 0)) from HO.out)
 have HZ2 : Hid ((wb).heap[w.heap.size + 1]? = some (.cells zeroCmd 28 (0, 0))) := Lib.hid (HZ.out)
 have HW2 := Lib.hid HW.out
 have HI := Lib.hid (And.intro (cmd_info (onlyO_size x k)) (show (onlyO x k).all (·.oneCell') = true by rw [show (onlyO x k) = (kindZ k) by simp [onlyO, kindZ]]; simp [Value.oneCell']))
 have HSZ := Lib.hid (onlyO_size x k)
 clear hk  HA HZ HO HW
 generalize hx : wb = wc at HB HZ2 HW2 ⊢
 clear hx
 go_wp2_with ((with_reducible refine wpList_load_row (o := ⟨some 98, _, _, _, _, _⟩) ?a1 28 (.tmp 3) ?a2 (w.heap.size + 2) ?a3 28 (onlyO x k) (0, 0) _ HB.out Tryz.underlying28 ?a4 HI.out.1 ?_); (case a1 => rfl); (case a2 => rfl); (case a3 => rfl); (case a4 => rfl); refine Stop.out ?_)
 unfold Stop
 go_wp2_with ((with_reducible refine wpList_store_row (o := ⟨none, _, _, _, _, _⟩) ?b1 28 (.tmp 2) (.tmp 98) ?b2 (w.heap.size + 1) (onlyO x k) ?b3 ?b4 28 zeroCmd HZ2.out HI.out.1 ?b5 HI.out.2 ?_); (case b1 => rfl); (case b2 => rfl); (case b3 => rfl); (case b4 => rfl); (case b5 => exact HSZ.out.symm); have HP9 := Lib.hid (setRow_heap wc (w.heap.size + 1) _ (onlyO x k) _ _ HZ2.out); have HB9 := Lib.hid (below_setRow HW2.out (g := w.heap.size + 1) (by omega) (onlyO x k)); refine Stop.out ?_)
 unfold Stop
 go_wp2
 exact bodyPost_ret (v := .agg (onlyO x k)) (results_cell_row Tryz.results23 _ _ (w.heap.size + 1) 28 (onlyO x k) (0, 0) _ rfl HP9.out Tryz.underlying28 rfl HI.out.1) rfl ⟨rfl, HB9.out⟩
end Go.Proofs.YtmjjenemokojjaaGreat

namespace Go.Proofs.YtmjjenemokojjaaGreat
open Go.RowKit
set_option maxRecDepth 100000

set_option maxHeartbeats 1000000 in
theorem ref_text (s : ByteArray) (w : World) (hs : s.size ≤ 65536) :
 Calls Tryz.prog 71 #[.string s] w (MadeB w (textT s)) := by
 have hsz : ((s.size : Nat) : Int) ≤ 65536 := by omega
 have hn : (Blob.numT 0 s.size).length ≤ 9 := num_len 0 s.size (by omega)
 have HC : Hid (Calls Tryz.prog 70 #[.int .i64 s.size] w (MadeB w (Blob.numT 0 s.size))) := Lib.hid (ref_num_pos s.size w (by omega))
 obtain ⟨J, hJ⟩ : ∃ J, J = Blob.numT 0 s.size := ⟨_, rfl⟩
 rw [← hJ] at HC hn
 have HT : Hid (textT s = J ++ strT s) := Lib.hid (by rw [hJ]; rfl)
 have HP : Hid (0 < (textT s).length) := Lib.hid (by unfold textT; rw [List.length_append, Blob.numT_length]; omega)
 clear hJ
 go_enter Tryz.func71, Tryz.ntmps71
 go_wp2_with (first
  | (go_at_call 70; refine HC.out.mono ?_; rintro e w1 ⟨g1, c1, rfl, ho1, hb1⟩; have HO1 := Lib.hid ho1; have HB1 := Lib.hid hb1; clear ho1 hb1)
  | (refine wpList_append_own_str (o := ⟨some 17, _, _, _, _, _⟩) rfl _ _ rfl w.heap.size w _ J (textT s) rfl HO1.out s rfl ?o1 HB1.out HB1.out.size HT.out ?_; (case o1 => omega); intro v2 w2 hown2 hb2; have HO2 := Lib.hid hown2; have HB2 := Lib.hid hb2; clear hown2 hb2))
 obtain ⟨g, c, hv, _, _⟩ := HO2.out.form HP.out
 subst hv
 go_ret2
 exact ⟨g, c, rfl, HO2.out, HB2.out⟩
set_option maxHeartbeats 400000 in
theorem ref_text_no (s : ByteArray) (w : World) (hs : 65536 < s.size) (hm : s.size ≤ 9223372036854775807) :
 Calls Tryz.prog 71 #[.string s] w fun e w' => e = .returned (.tuple #[.slice none 0 0, .bool false]) ∧ w = w' := by
 have hsz : 65536 < ((s.size : Nat) : Int) := by omega
 go_enter Tryz.func71, Tryz.ntmps71
 go_wp2
 go_ret2
 exact ⟨rfl, rfl⟩

theorem ref_flag (b : Bool) (w : World) : Calls Tryz.prog 96 #[.bool b] w (MadeT w (flagT b)) := by
 cases b
 all_goals
  go_enter Tryz.func96, Tryz.ntmps96
  go_wp2
  go_ret
  exact ⟨_, 1, rfl, one_own w rfl, (Below.refl _ _).alloc (Nat.le_refl _) _⟩
end Go.Proofs.YtmjjenemokojjaaGreat
