/- Commands with the fields alone that their kind names: the document's. -/
import Derived.Test.YtmjjenemokojjaaGreatD41
import Derived.WalkMore
namespace Go.Proofs.YtmjjenemokojjaaGreat
open Go.RowKit
set_option maxRecDepth 100000
set_option linter.unusedSimpArgs false
set_option linter.unusedVariables false

def only5 (x : CmdV) : Array Value := (((((((kindZ 5).setIfInBounds 2 (.string x.text)).setIfInBounds 10 (.int .i64 x.pk)).setIfInBounds 11 (.int .i64 x.py)).setIfInBounds 12 (.int .i64 x.pi)).setIfInBounds 7 (.int .i64 x.num)).setIfInBounds 8 (.int .i64 x.den))
theorem only5_size (x : CmdV) : (only5 x).size = 22 := by unfold only5; simp [kindZ_size]
set_option maxHeartbeats 2000000 in
theorem bare_5 (cs : Array Value) (x : CmdV) (w : World) (hk : cs[0]? = some (.int .i64 5)) (h2 : cs[2]? = some (.string x.text)) (h10 : cs[10]? = some (.int .i64 x.pk)) (h11 : cs[11]? = some (.int .i64 x.py)) (h12 : cs[12]? = some (.int .i64 x.pi)) (h7 : cs[7]? = some (.int .i64 x.num)) (h8 : cs[8]? = some (.int .i64 x.den)) : Calls Tryz.prog 23 #[.agg cs] w fun e w1 => e = .returned (.agg (only5 x)) ∧ Below w.heap.size w w1 := by
 have hb0 := heap_alloc_new w (.cells cs 28)
 have hb1 := heap_alloc_new (w.alloc (.cells cs 28)) (.cells zeroCmd 28)
 simp only [World.size_alloc] at hb1
 have HA := Lib.hid (heap_on (below_alloc (w.alloc (.cells cs 28)) (.cells zeroCmd 28)) hb0)
 have HZ := Lib.hid hb1
 have HW := Lib.hid (show Below w.heap.size w ((w.alloc (.cells cs 28)).alloc (.cells zeroCmd 28)) from below_more (below_alloc _ _))
 have HN : Hid (((w.alloc (.cells cs 28)).alloc (.cells zeroCmd 28)).heap.size = w.heap.size + 2) := Lib.hid (by simp)
 have a0 : ((w.alloc (.cells cs 28)).alloc (.cells zeroCmd 28)).cell? ⟨w.heap.size, 0, none⟩ = some (.int .i64 5) := (cell_of_row _ _ 0 _ _ _ HA.out).trans hk
 clear hb0 hb1
 go_enter Tryz.func23, Tryz.ntmps23
 go_upto_region 1 with fail
 generalize World.alloc (World.alloc w _) _ = w2 at HA HZ HW HN a0 ⊢
 have hN := HN.out
 have HX2 : Hid ((w2.alloc (.cells zeroCmd 28)).heap[w.heap.size + 2]? = some (.cells zeroCmd 28 (0, 0))) := Lib.hid (by rw [← hN]; exact heap_alloc_new w2 _)
 have HO1 : Hid ((kindZ 5).all (·.oneCell') = true) := Lib.hid (by simp [Value.oneCell', kindZ])
 have HA2 := Lib.hid (heap_on (below_alloc w2 (.cells zeroCmd 28)) HA.out)
 have HZ2 := Lib.hid (heap_on (below_alloc w2 (.cells zeroCmd 28)) HZ.out)
 have HW2 := Lib.hid (below_then HW.out (below_alloc w2 (.cells zeroCmd 28)))
 go_wp2_with ((with_reducible refine wpList_store_row (o := ⟨none, _, _, _, _, _⟩) ?b1 28 (.tmp 3) (.tmp 6) ?b2 (w.heap.size + 2) (kindZ 5) ?b3 ?b4 28 zeroCmd HX2.out ?b5 ?b6 ?b7 ?_); (case b1 => rfl); (case b2 => rfl); (case b3 => rfl); (case b4 => rfl); (case b5 => exact cmd_info rfl); (case b6 => rfl); (case b7 => exact HO1.out); refine Stop.out ?_)
 unfold Stop
 have HO := Lib.hid (setRow_heap (w2.alloc (.cells zeroCmd 28)) (w.heap.size + 2) _ (kindZ 5) _ _ HX2.out)
 have HA3 := Lib.hid ((setRow_other (w2.alloc (.cells zeroCmd 28)) (w.heap.size + 2) w.heap.size (kindZ 5) (by omega)).trans HA2.out)
 have HZ3 := Lib.hid ((setRow_other (w2.alloc (.cells zeroCmd 28)) (w.heap.size + 2) (w.heap.size + 1) (kindZ 5) (by omega)).trans HZ2.out)
 have HW3 := Lib.hid (below_setRow HW2.out (g := w.heap.size + 2) (by omega) (kindZ 5))
 generalize World.setRow _ _ _ = wb at HO HA3 HZ3 HW3 ⊢
 clear HA HZ HW HN hN HX2 HO1 HA2 HZ2 HW2 a0
 have HA := HA3
 have HZ := HZ3
 have HW := HW3
 clear HA3 HZ3 HW3
 have HO2 : Hid (wb.heap[w.heap.size + 2]? = some (.cells (kindZ 5) 28 (0, 0))) := HO
 clear HO
 have HO := HO2
 clear HO2
 have a0 : wb.cell? ⟨w.heap.size, 0, none⟩ = some (.int .i64 5) := (cell_of_row _ _ 0 _ _ _ HA.out).trans hk
 generalize Value.agg (kindZ 5) = vk
 go_upto_region 22 with fail
 clear a0
 have c2 := (cell_of_row wb w.heap.size 2 _ _ _ HA.out).trans h2
 have o2 : wb.cell? ⟨w.heap.size + 2, 2, none⟩ = some (.string ⟨#[]⟩) := (cell_of_row wb (w.heap.size + 2) 2 _ _ _ HO.out).trans rfl
 have f2 := frozen_of_row wb (w.heap.size + 2) 2 _ _ HO.out
 have c10 := (cell_of_row wb w.heap.size 10 _ _ _ HA.out).trans h10
 have o10 : wb.cell? ⟨w.heap.size + 2, 10, none⟩ = some (.int .i64 0) := (cell_of_row wb (w.heap.size + 2) 10 _ _ _ HO.out).trans rfl
 have f10 := frozen_of_row wb (w.heap.size + 2) 10 _ _ HO.out
 have c11 := (cell_of_row wb w.heap.size 11 _ _ _ HA.out).trans h11
 have o11 : wb.cell? ⟨w.heap.size + 2, 11, none⟩ = some (.int .i64 0) := (cell_of_row wb (w.heap.size + 2) 11 _ _ _ HO.out).trans rfl
 have f11 := frozen_of_row wb (w.heap.size + 2) 11 _ _ HO.out
 have c12 := (cell_of_row wb w.heap.size 12 _ _ _ HA.out).trans h12
 have o12 : wb.cell? ⟨w.heap.size + 2, 12, none⟩ = some (.int .i64 0) := (cell_of_row wb (w.heap.size + 2) 12 _ _ _ HO.out).trans rfl
 have f12 := frozen_of_row wb (w.heap.size + 2) 12 _ _ HO.out
 have c7 := (cell_of_row wb w.heap.size 7 _ _ _ HA.out).trans h7
 have o7 : wb.cell? ⟨w.heap.size + 2, 7, none⟩ = some (.int .i64 0) := (cell_of_row wb (w.heap.size + 2) 7 _ _ _ HO.out).trans rfl
 have f7 := frozen_of_row wb (w.heap.size + 2) 7 _ _ HO.out
 have c8 := (cell_of_row wb w.heap.size 8 _ _ _ HA.out).trans h8
 have o8 : wb.cell? ⟨w.heap.size + 2, 8, none⟩ = some (.int .i64 0) := (cell_of_row wb (w.heap.size + 2) 8 _ _ _ HO.out).trans rfl
 have f8 := frozen_of_row wb (w.heap.size + 2) 8 _ _ HO.out
 have q0 : ((wb.setCell ⟨w.heap.size + 2, 2, none⟩ (.string x.text))).heap[w.heap.size + 2]? = some (.cells ((kindZ 5).setIfInBounds 2 (.string x.text)) 28 (0, 0)) := heap_setCell_same _ (w.heap.size + 2) 2 _ _ _ HO.out
 have q1 : (((wb.setCell ⟨w.heap.size + 2, 2, none⟩ (.string x.text)).setCell ⟨w.heap.size + 2, 10, none⟩ (.int .i64 x.pk))).heap[w.heap.size + 2]? = some (.cells (((kindZ 5).setIfInBounds 2 (.string x.text)).setIfInBounds 10 (.int .i64 x.pk)) 28 (0, 0)) := heap_setCell_same _ (w.heap.size + 2) 10 _ _ _ q0
 have q2 : ((((wb.setCell ⟨w.heap.size + 2, 2, none⟩ (.string x.text)).setCell ⟨w.heap.size + 2, 10, none⟩ (.int .i64 x.pk)).setCell ⟨w.heap.size + 2, 11, none⟩ (.int .i64 x.py))).heap[w.heap.size + 2]? = some (.cells ((((kindZ 5).setIfInBounds 2 (.string x.text)).setIfInBounds 10 (.int .i64 x.pk)).setIfInBounds 11 (.int .i64 x.py)) 28 (0, 0)) := heap_setCell_same _ (w.heap.size + 2) 11 _ _ _ q1
 have q3 : (((((wb.setCell ⟨w.heap.size + 2, 2, none⟩ (.string x.text)).setCell ⟨w.heap.size + 2, 10, none⟩ (.int .i64 x.pk)).setCell ⟨w.heap.size + 2, 11, none⟩ (.int .i64 x.py)).setCell ⟨w.heap.size + 2, 12, none⟩ (.int .i64 x.pi))).heap[w.heap.size + 2]? = some (.cells (((((kindZ 5).setIfInBounds 2 (.string x.text)).setIfInBounds 10 (.int .i64 x.pk)).setIfInBounds 11 (.int .i64 x.py)).setIfInBounds 12 (.int .i64 x.pi)) 28 (0, 0)) := heap_setCell_same _ (w.heap.size + 2) 12 _ _ _ q2
 have q4 : ((((((wb.setCell ⟨w.heap.size + 2, 2, none⟩ (.string x.text)).setCell ⟨w.heap.size + 2, 10, none⟩ (.int .i64 x.pk)).setCell ⟨w.heap.size + 2, 11, none⟩ (.int .i64 x.py)).setCell ⟨w.heap.size + 2, 12, none⟩ (.int .i64 x.pi)).setCell ⟨w.heap.size + 2, 7, none⟩ (.int .i64 x.num))).heap[w.heap.size + 2]? = some (.cells ((((((kindZ 5).setIfInBounds 2 (.string x.text)).setIfInBounds 10 (.int .i64 x.pk)).setIfInBounds 11 (.int .i64 x.py)).setIfInBounds 12 (.int .i64 x.pi)).setIfInBounds 7 (.int .i64 x.num)) 28 (0, 0)) := heap_setCell_same _ (w.heap.size + 2) 7 _ _ _ q3
 have q5 : (((((((wb.setCell ⟨w.heap.size + 2, 2, none⟩ (.string x.text)).setCell ⟨w.heap.size + 2, 10, none⟩ (.int .i64 x.pk)).setCell ⟨w.heap.size + 2, 11, none⟩ (.int .i64 x.py)).setCell ⟨w.heap.size + 2, 12, none⟩ (.int .i64 x.pi)).setCell ⟨w.heap.size + 2, 7, none⟩ (.int .i64 x.num)).setCell ⟨w.heap.size + 2, 8, none⟩ (.int .i64 x.den))).heap[w.heap.size + 2]? = some (.cells (((((((kindZ 5).setIfInBounds 2 (.string x.text)).setIfInBounds 10 (.int .i64 x.pk)).setIfInBounds 11 (.int .i64 x.py)).setIfInBounds 12 (.int .i64 x.pi)).setIfInBounds 7 (.int .i64 x.num)).setIfInBounds 8 (.int .i64 x.den)) 28 (0, 0)) := heap_setCell_same _ (w.heap.size + 2) 8 _ _ _ q4
 have HB := Lib.hid (show (((((((wb.setCell ⟨w.heap.size + 2, 2, none⟩ (.string x.text)).setCell ⟨w.heap.size + 2, 10, none⟩ (.int .i64 x.pk)).setCell ⟨w.heap.size + 2, 11, none⟩ (.int .i64 x.py)).setCell ⟨w.heap.size + 2, 12, none⟩ (.int .i64 x.pi)).setCell ⟨w.heap.size + 2, 7, none⟩ (.int .i64 x.num)).setCell ⟨w.heap.size + 2, 8, none⟩ (.int .i64 x.den))).heap[w.heap.size + 2]? = some (.cells (only5 x) 28 (0, 0)) from q5)
 clear q0 q1 q2 q3 q4 q5
 have HZ2 : Hid ((((((((wb.setCell ⟨w.heap.size + 2, 2, none⟩ (.string x.text)).setCell ⟨w.heap.size + 2, 10, none⟩ (.int .i64 x.pk)).setCell ⟨w.heap.size + 2, 11, none⟩ (.int .i64 x.py)).setCell ⟨w.heap.size + 2, 12, none⟩ (.int .i64 x.pi)).setCell ⟨w.heap.size + 2, 7, none⟩ (.int .i64 x.num)).setCell ⟨w.heap.size + 2, 8, none⟩ (.int .i64 x.den))).heap[w.heap.size + 1]? = some (.cells zeroCmd 28 (0, 0))) := Lib.hid ((heap_setCell_other _ ⟨w.heap.size + 2, 8, none⟩ (w.heap.size + 1) (.int .i64 x.den) (by simp)).trans ((heap_setCell_other _ ⟨w.heap.size + 2, 7, none⟩ (w.heap.size + 1) (.int .i64 x.num) (by simp)).trans ((heap_setCell_other _ ⟨w.heap.size + 2, 12, none⟩ (w.heap.size + 1) (.int .i64 x.pi) (by simp)).trans ((heap_setCell_other _ ⟨w.heap.size + 2, 11, none⟩ (w.heap.size + 1) (.int .i64 x.py) (by simp)).trans ((heap_setCell_other _ ⟨w.heap.size + 2, 10, none⟩ (w.heap.size + 1) (.int .i64 x.pk) (by simp)).trans ((heap_setCell_other _ ⟨w.heap.size + 2, 2, none⟩ (w.heap.size + 1) (.string x.text) (by simp)).trans HZ.out))))))
 have s0 := Below.setCell HW.out (p := ⟨w.heap.size + 2, 2, none⟩) (show w.heap.size ≤ w.heap.size + 2 by omega) (.string x.text)
 have s1 := Below.setCell s0 (p := ⟨w.heap.size + 2, 10, none⟩) (show w.heap.size ≤ w.heap.size + 2 by omega) (.int .i64 x.pk)
 have s2 := Below.setCell s1 (p := ⟨w.heap.size + 2, 11, none⟩) (show w.heap.size ≤ w.heap.size + 2 by omega) (.int .i64 x.py)
 have s3 := Below.setCell s2 (p := ⟨w.heap.size + 2, 12, none⟩) (show w.heap.size ≤ w.heap.size + 2 by omega) (.int .i64 x.pi)
 have s4 := Below.setCell s3 (p := ⟨w.heap.size + 2, 7, none⟩) (show w.heap.size ≤ w.heap.size + 2 by omega) (.int .i64 x.num)
 have s5 := Below.setCell s4 (p := ⟨w.heap.size + 2, 8, none⟩) (show w.heap.size ≤ w.heap.size + 2 by omega) (.int .i64 x.den)
 have HW2 := Lib.hid s5
 clear s0 s1 s2 s3 s4 s5
 have HI := Lib.hid (And.intro (cmd_info (only5_size x)) (show (only5 x).all (·.oneCell') = true by rw [show (only5 x) = #[.int .i64 5, .string ⟨#[]⟩, .string x.text, .int .i64 0, .int .i64 0, .int .i64 0, .int .i64 0, .int .i64 x.num, .int .i64 x.den, .int .i64 0, .int .i64 x.pk, .int .i64 x.py, .int .i64 x.pi, .string ⟨#[]⟩, .bool false, .bool false, .string ⟨#[]⟩, .int .i64 0, .string ⟨#[]⟩, .string ⟨#[]⟩, .string ⟨#[]⟩, .slice none 0 0] by simp [only5, kindZ]]; simp [Value.oneCell']))
 have HSZ := Lib.hid (only5_size x)
 clear hk h2 h10 h11 h12 h7 h8 HA HZ HO HW
 go_upto_region 37 with fail
 generalize hx : ((((((wb.setCell ⟨w.heap.size + 2, 2, none⟩ (.string x.text)).setCell ⟨w.heap.size + 2, 10, none⟩ (.int .i64 x.pk)).setCell ⟨w.heap.size + 2, 11, none⟩ (.int .i64 x.py)).setCell ⟨w.heap.size + 2, 12, none⟩ (.int .i64 x.pi)).setCell ⟨w.heap.size + 2, 7, none⟩ (.int .i64 x.num)).setCell ⟨w.heap.size + 2, 8, none⟩ (.int .i64 x.den)) = wc at HB HZ2 HW2 ⊢
 clear hx c2 o2 f2 c10 o10 f10 c11 o11 f11 c12 o12 f12 c7 o7 f7 c8 o8 f8
 go_wp2_with ((with_reducible refine wpList_load_row (o := ⟨some 98, _, _, _, _, _⟩) ?a1 28 (.tmp 3) ?a2 (w.heap.size + 2) ?a3 28 (only5 x) (0, 0) _ HB.out Tryz.underlying28 ?a4 HI.out.1 ?_); (case a1 => rfl); (case a2 => rfl); (case a3 => rfl); (case a4 => rfl); refine Stop.out ?_)
 unfold Stop
 go_wp2_with ((with_reducible refine wpList_store_row (o := ⟨none, _, _, _, _, _⟩) ?b1 28 (.tmp 2) (.tmp 98) ?b2 (w.heap.size + 1) (only5 x) ?b3 ?b4 28 zeroCmd HZ2.out HI.out.1 ?b5 HI.out.2 ?_); (case b1 => rfl); (case b2 => rfl); (case b3 => rfl); (case b4 => rfl); (case b5 => exact HSZ.out.symm); have HP9 := Lib.hid (setRow_heap wc (w.heap.size + 1) _ (only5 x) _ _ HZ2.out); have HB9 := Lib.hid (below_setRow HW2.out (g := w.heap.size + 1) (by omega) (only5 x)); refine Stop.out ?_)
 unfold Stop
 go_wp2
 exact bodyPost_ret (v := .agg (only5 x)) (results_cell_row Tryz.results23 _ _ (w.heap.size + 1) 28 (only5 x) (0, 0) _ rfl HP9.out Tryz.underlying28 rfl HI.out.1) rfl ⟨rfl, HB9.out⟩
def only6 (x : CmdV) : Array Value := ((kindZ 6).setIfInBounds 2 (.string x.text))
theorem only6_size (x : CmdV) : (only6 x).size = 22 := by unfold only6; simp [kindZ_size]
set_option maxHeartbeats 2000000 in
theorem bare_6 (cs : Array Value) (x : CmdV) (w : World) (hk : cs[0]? = some (.int .i64 6)) (h2 : cs[2]? = some (.string x.text)) : Calls Tryz.prog 23 #[.agg cs] w fun e w1 => e = .returned (.agg (only6 x)) ∧ Below w.heap.size w w1 := by
 have hb0 := heap_alloc_new w (.cells cs 28)
 have hb1 := heap_alloc_new (w.alloc (.cells cs 28)) (.cells zeroCmd 28)
 simp only [World.size_alloc] at hb1
 have HA := Lib.hid (heap_on (below_alloc (w.alloc (.cells cs 28)) (.cells zeroCmd 28)) hb0)
 have HZ := Lib.hid hb1
 have HW := Lib.hid (show Below w.heap.size w ((w.alloc (.cells cs 28)).alloc (.cells zeroCmd 28)) from below_more (below_alloc _ _))
 have HN : Hid (((w.alloc (.cells cs 28)).alloc (.cells zeroCmd 28)).heap.size = w.heap.size + 2) := Lib.hid (by simp)
 have a0 : ((w.alloc (.cells cs 28)).alloc (.cells zeroCmd 28)).cell? ⟨w.heap.size, 0, none⟩ = some (.int .i64 6) := (cell_of_row _ _ 0 _ _ _ HA.out).trans hk
 clear hb0 hb1
 go_enter Tryz.func23, Tryz.ntmps23
 go_upto_region 1 with fail
 generalize World.alloc (World.alloc w _) _ = w2 at HA HZ HW HN a0 ⊢
 have hN := HN.out
 have HX2 : Hid ((w2.alloc (.cells zeroCmd 28)).heap[w.heap.size + 2]? = some (.cells zeroCmd 28 (0, 0))) := Lib.hid (by rw [← hN]; exact heap_alloc_new w2 _)
 have HO1 : Hid ((kindZ 6).all (·.oneCell') = true) := Lib.hid (by simp [Value.oneCell', kindZ])
 have HA2 := Lib.hid (heap_on (below_alloc w2 (.cells zeroCmd 28)) HA.out)
 have HZ2 := Lib.hid (heap_on (below_alloc w2 (.cells zeroCmd 28)) HZ.out)
 have HW2 := Lib.hid (below_then HW.out (below_alloc w2 (.cells zeroCmd 28)))
 go_wp2_with ((with_reducible refine wpList_store_row (o := ⟨none, _, _, _, _, _⟩) ?b1 28 (.tmp 3) (.tmp 6) ?b2 (w.heap.size + 2) (kindZ 6) ?b3 ?b4 28 zeroCmd HX2.out ?b5 ?b6 ?b7 ?_); (case b1 => rfl); (case b2 => rfl); (case b3 => rfl); (case b4 => rfl); (case b5 => exact cmd_info rfl); (case b6 => rfl); (case b7 => exact HO1.out); refine Stop.out ?_)
 unfold Stop
 have HO := Lib.hid (setRow_heap (w2.alloc (.cells zeroCmd 28)) (w.heap.size + 2) _ (kindZ 6) _ _ HX2.out)
 have HA3 := Lib.hid ((setRow_other (w2.alloc (.cells zeroCmd 28)) (w.heap.size + 2) w.heap.size (kindZ 6) (by omega)).trans HA2.out)
 have HZ3 := Lib.hid ((setRow_other (w2.alloc (.cells zeroCmd 28)) (w.heap.size + 2) (w.heap.size + 1) (kindZ 6) (by omega)).trans HZ2.out)
 have HW3 := Lib.hid (below_setRow HW2.out (g := w.heap.size + 2) (by omega) (kindZ 6))
 generalize World.setRow _ _ _ = wb at HO HA3 HZ3 HW3 ⊢
 clear HA HZ HW HN hN HX2 HO1 HA2 HZ2 HW2 a0
 have HA := HA3
 have HZ := HZ3
 have HW := HW3
 clear HA3 HZ3 HW3
 have HO2 : Hid (wb.heap[w.heap.size + 2]? = some (.cells (kindZ 6) 28 (0, 0))) := HO
 clear HO
 have HO := HO2
 clear HO2
 have a0 : wb.cell? ⟨w.heap.size, 0, none⟩ = some (.int .i64 6) := (cell_of_row _ _ 0 _ _ _ HA.out).trans hk
 generalize Value.agg (kindZ 6) = vk
 go_upto_region 27 with fail
 clear a0
 have c2 := (cell_of_row wb w.heap.size 2 _ _ _ HA.out).trans h2
 have o2 : wb.cell? ⟨w.heap.size + 2, 2, none⟩ = some (.string ⟨#[]⟩) := (cell_of_row wb (w.heap.size + 2) 2 _ _ _ HO.out).trans rfl
 have f2 := frozen_of_row wb (w.heap.size + 2) 2 _ _ HO.out
 have q0 : ((wb.setCell ⟨w.heap.size + 2, 2, none⟩ (.string x.text))).heap[w.heap.size + 2]? = some (.cells ((kindZ 6).setIfInBounds 2 (.string x.text)) 28 (0, 0)) := heap_setCell_same _ (w.heap.size + 2) 2 _ _ _ HO.out
 have HB := Lib.hid (show ((wb.setCell ⟨w.heap.size + 2, 2, none⟩ (.string x.text))).heap[w.heap.size + 2]? = some (.cells (only6 x) 28 (0, 0)) from q0)
 clear q0
 have HZ2 : Hid (((wb.setCell ⟨w.heap.size + 2, 2, none⟩ (.string x.text))).heap[w.heap.size + 1]? = some (.cells zeroCmd 28 (0, 0))) := Lib.hid ((heap_setCell_other _ ⟨w.heap.size + 2, 2, none⟩ (w.heap.size + 1) (.string x.text) (by simp)).trans HZ.out)
 have s0 := Below.setCell HW.out (p := ⟨w.heap.size + 2, 2, none⟩) (show w.heap.size ≤ w.heap.size + 2 by omega) (.string x.text)
 have HW2 := Lib.hid s0
 clear s0
 have HI := Lib.hid (And.intro (cmd_info (only6_size x)) (show (only6 x).all (·.oneCell') = true by rw [show (only6 x) = #[.int .i64 6, .string ⟨#[]⟩, .string x.text, .int .i64 0, .int .i64 0, .int .i64 0, .int .i64 0, .int .i64 0, .int .i64 0, .int .i64 0, .int .i64 0, .int .i64 0, .int .i64 0, .string ⟨#[]⟩, .bool false, .bool false, .string ⟨#[]⟩, .int .i64 0, .string ⟨#[]⟩, .string ⟨#[]⟩, .string ⟨#[]⟩, .slice none 0 0] by simp [only6, kindZ]]; simp [Value.oneCell']))
 have HSZ := Lib.hid (only6_size x)
 clear hk h2 HA HZ HO HW
 go_upto_region 37 with fail
 generalize hx : (wb.setCell ⟨w.heap.size + 2, 2, none⟩ (.string x.text)) = wc at HB HZ2 HW2 ⊢
 clear hx c2 o2 f2
 go_wp2_with ((with_reducible refine wpList_load_row (o := ⟨some 98, _, _, _, _, _⟩) ?a1 28 (.tmp 3) ?a2 (w.heap.size + 2) ?a3 28 (only6 x) (0, 0) _ HB.out Tryz.underlying28 ?a4 HI.out.1 ?_); (case a1 => rfl); (case a2 => rfl); (case a3 => rfl); (case a4 => rfl); refine Stop.out ?_)
 unfold Stop
 go_wp2_with ((with_reducible refine wpList_store_row (o := ⟨none, _, _, _, _, _⟩) ?b1 28 (.tmp 2) (.tmp 98) ?b2 (w.heap.size + 1) (only6 x) ?b3 ?b4 28 zeroCmd HZ2.out HI.out.1 ?b5 HI.out.2 ?_); (case b1 => rfl); (case b2 => rfl); (case b3 => rfl); (case b4 => rfl); (case b5 => exact HSZ.out.symm); have HP9 := Lib.hid (setRow_heap wc (w.heap.size + 1) _ (only6 x) _ _ HZ2.out); have HB9 := Lib.hid (below_setRow HW2.out (g := w.heap.size + 1) (by omega) (only6 x)); refine Stop.out ?_)
 unfold Stop
 go_wp2
 exact bodyPost_ret (v := .agg (only6 x)) (results_cell_row Tryz.results23 _ _ (w.heap.size + 1) 28 (only6 x) (0, 0) _ rfl HP9.out Tryz.underlying28 rfl HI.out.1) rfl ⟨rfl, HB9.out⟩
def only7 (x : CmdV) : Array Value := (((((kindZ 7).setIfInBounds 10 (.int .i64 x.pk)).setIfInBounds 11 (.int .i64 x.py)).setIfInBounds 12 (.int .i64 x.pi)).setIfInBounds 7 (.int .i64 x.num))
theorem only7_size (x : CmdV) : (only7 x).size = 22 := by unfold only7; simp [kindZ_size]
set_option maxHeartbeats 2000000 in
theorem bare_7 (cs : Array Value) (x : CmdV) (w : World) (hk : cs[0]? = some (.int .i64 7)) (h10 : cs[10]? = some (.int .i64 x.pk)) (h11 : cs[11]? = some (.int .i64 x.py)) (h12 : cs[12]? = some (.int .i64 x.pi)) (h7 : cs[7]? = some (.int .i64 x.num)) : Calls Tryz.prog 23 #[.agg cs] w fun e w1 => e = .returned (.agg (only7 x)) ∧ Below w.heap.size w w1 := by
 have hb0 := heap_alloc_new w (.cells cs 28)
 have hb1 := heap_alloc_new (w.alloc (.cells cs 28)) (.cells zeroCmd 28)
 simp only [World.size_alloc] at hb1
 have HA := Lib.hid (heap_on (below_alloc (w.alloc (.cells cs 28)) (.cells zeroCmd 28)) hb0)
 have HZ := Lib.hid hb1
 have HW := Lib.hid (show Below w.heap.size w ((w.alloc (.cells cs 28)).alloc (.cells zeroCmd 28)) from below_more (below_alloc _ _))
 have HN : Hid (((w.alloc (.cells cs 28)).alloc (.cells zeroCmd 28)).heap.size = w.heap.size + 2) := Lib.hid (by simp)
 have a0 : ((w.alloc (.cells cs 28)).alloc (.cells zeroCmd 28)).cell? ⟨w.heap.size, 0, none⟩ = some (.int .i64 7) := (cell_of_row _ _ 0 _ _ _ HA.out).trans hk
 clear hb0 hb1
 go_enter Tryz.func23, Tryz.ntmps23
 go_upto_region 1 with fail
 generalize World.alloc (World.alloc w _) _ = w2 at HA HZ HW HN a0 ⊢
 have hN := HN.out
 have HX2 : Hid ((w2.alloc (.cells zeroCmd 28)).heap[w.heap.size + 2]? = some (.cells zeroCmd 28 (0, 0))) := Lib.hid (by rw [← hN]; exact heap_alloc_new w2 _)
 have HO1 : Hid ((kindZ 7).all (·.oneCell') = true) := Lib.hid (by simp [Value.oneCell', kindZ])
 have HA2 := Lib.hid (heap_on (below_alloc w2 (.cells zeroCmd 28)) HA.out)
 have HZ2 := Lib.hid (heap_on (below_alloc w2 (.cells zeroCmd 28)) HZ.out)
 have HW2 := Lib.hid (below_then HW.out (below_alloc w2 (.cells zeroCmd 28)))
 go_wp2_with ((with_reducible refine wpList_store_row (o := ⟨none, _, _, _, _, _⟩) ?b1 28 (.tmp 3) (.tmp 6) ?b2 (w.heap.size + 2) (kindZ 7) ?b3 ?b4 28 zeroCmd HX2.out ?b5 ?b6 ?b7 ?_); (case b1 => rfl); (case b2 => rfl); (case b3 => rfl); (case b4 => rfl); (case b5 => exact cmd_info rfl); (case b6 => rfl); (case b7 => exact HO1.out); refine Stop.out ?_)
 unfold Stop
 have HO := Lib.hid (setRow_heap (w2.alloc (.cells zeroCmd 28)) (w.heap.size + 2) _ (kindZ 7) _ _ HX2.out)
 have HA3 := Lib.hid ((setRow_other (w2.alloc (.cells zeroCmd 28)) (w.heap.size + 2) w.heap.size (kindZ 7) (by omega)).trans HA2.out)
 have HZ3 := Lib.hid ((setRow_other (w2.alloc (.cells zeroCmd 28)) (w.heap.size + 2) (w.heap.size + 1) (kindZ 7) (by omega)).trans HZ2.out)
 have HW3 := Lib.hid (below_setRow HW2.out (g := w.heap.size + 2) (by omega) (kindZ 7))
 generalize World.setRow _ _ _ = wb at HO HA3 HZ3 HW3 ⊢
 clear HA HZ HW HN hN HX2 HO1 HA2 HZ2 HW2 a0
 have HA := HA3
 have HZ := HZ3
 have HW := HW3
 clear HA3 HZ3 HW3
 have HO2 : Hid (wb.heap[w.heap.size + 2]? = some (.cells (kindZ 7) 28 (0, 0))) := HO
 clear HO
 have HO := HO2
 clear HO2
 have a0 : wb.cell? ⟨w.heap.size, 0, none⟩ = some (.int .i64 7) := (cell_of_row _ _ 0 _ _ _ HA.out).trans hk
 generalize Value.agg (kindZ 7) = vk
 go_upto_region 29 with fail
 clear a0
 have c10 := (cell_of_row wb w.heap.size 10 _ _ _ HA.out).trans h10
 have o10 : wb.cell? ⟨w.heap.size + 2, 10, none⟩ = some (.int .i64 0) := (cell_of_row wb (w.heap.size + 2) 10 _ _ _ HO.out).trans rfl
 have f10 := frozen_of_row wb (w.heap.size + 2) 10 _ _ HO.out
 have c11 := (cell_of_row wb w.heap.size 11 _ _ _ HA.out).trans h11
 have o11 : wb.cell? ⟨w.heap.size + 2, 11, none⟩ = some (.int .i64 0) := (cell_of_row wb (w.heap.size + 2) 11 _ _ _ HO.out).trans rfl
 have f11 := frozen_of_row wb (w.heap.size + 2) 11 _ _ HO.out
 have c12 := (cell_of_row wb w.heap.size 12 _ _ _ HA.out).trans h12
 have o12 : wb.cell? ⟨w.heap.size + 2, 12, none⟩ = some (.int .i64 0) := (cell_of_row wb (w.heap.size + 2) 12 _ _ _ HO.out).trans rfl
 have f12 := frozen_of_row wb (w.heap.size + 2) 12 _ _ HO.out
 have c7 := (cell_of_row wb w.heap.size 7 _ _ _ HA.out).trans h7
 have o7 : wb.cell? ⟨w.heap.size + 2, 7, none⟩ = some (.int .i64 0) := (cell_of_row wb (w.heap.size + 2) 7 _ _ _ HO.out).trans rfl
 have f7 := frozen_of_row wb (w.heap.size + 2) 7 _ _ HO.out
 have q0 : ((wb.setCell ⟨w.heap.size + 2, 10, none⟩ (.int .i64 x.pk))).heap[w.heap.size + 2]? = some (.cells ((kindZ 7).setIfInBounds 10 (.int .i64 x.pk)) 28 (0, 0)) := heap_setCell_same _ (w.heap.size + 2) 10 _ _ _ HO.out
 have q1 : (((wb.setCell ⟨w.heap.size + 2, 10, none⟩ (.int .i64 x.pk)).setCell ⟨w.heap.size + 2, 11, none⟩ (.int .i64 x.py))).heap[w.heap.size + 2]? = some (.cells (((kindZ 7).setIfInBounds 10 (.int .i64 x.pk)).setIfInBounds 11 (.int .i64 x.py)) 28 (0, 0)) := heap_setCell_same _ (w.heap.size + 2) 11 _ _ _ q0
 have q2 : ((((wb.setCell ⟨w.heap.size + 2, 10, none⟩ (.int .i64 x.pk)).setCell ⟨w.heap.size + 2, 11, none⟩ (.int .i64 x.py)).setCell ⟨w.heap.size + 2, 12, none⟩ (.int .i64 x.pi))).heap[w.heap.size + 2]? = some (.cells ((((kindZ 7).setIfInBounds 10 (.int .i64 x.pk)).setIfInBounds 11 (.int .i64 x.py)).setIfInBounds 12 (.int .i64 x.pi)) 28 (0, 0)) := heap_setCell_same _ (w.heap.size + 2) 12 _ _ _ q1
 have q3 : (((((wb.setCell ⟨w.heap.size + 2, 10, none⟩ (.int .i64 x.pk)).setCell ⟨w.heap.size + 2, 11, none⟩ (.int .i64 x.py)).setCell ⟨w.heap.size + 2, 12, none⟩ (.int .i64 x.pi)).setCell ⟨w.heap.size + 2, 7, none⟩ (.int .i64 x.num))).heap[w.heap.size + 2]? = some (.cells (((((kindZ 7).setIfInBounds 10 (.int .i64 x.pk)).setIfInBounds 11 (.int .i64 x.py)).setIfInBounds 12 (.int .i64 x.pi)).setIfInBounds 7 (.int .i64 x.num)) 28 (0, 0)) := heap_setCell_same _ (w.heap.size + 2) 7 _ _ _ q2
 have HB := Lib.hid (show (((((wb.setCell ⟨w.heap.size + 2, 10, none⟩ (.int .i64 x.pk)).setCell ⟨w.heap.size + 2, 11, none⟩ (.int .i64 x.py)).setCell ⟨w.heap.size + 2, 12, none⟩ (.int .i64 x.pi)).setCell ⟨w.heap.size + 2, 7, none⟩ (.int .i64 x.num))).heap[w.heap.size + 2]? = some (.cells (only7 x) 28 (0, 0)) from q3)
 clear q0 q1 q2 q3
 have HZ2 : Hid ((((((wb.setCell ⟨w.heap.size + 2, 10, none⟩ (.int .i64 x.pk)).setCell ⟨w.heap.size + 2, 11, none⟩ (.int .i64 x.py)).setCell ⟨w.heap.size + 2, 12, none⟩ (.int .i64 x.pi)).setCell ⟨w.heap.size + 2, 7, none⟩ (.int .i64 x.num))).heap[w.heap.size + 1]? = some (.cells zeroCmd 28 (0, 0))) := Lib.hid ((heap_setCell_other _ ⟨w.heap.size + 2, 7, none⟩ (w.heap.size + 1) (.int .i64 x.num) (by simp)).trans ((heap_setCell_other _ ⟨w.heap.size + 2, 12, none⟩ (w.heap.size + 1) (.int .i64 x.pi) (by simp)).trans ((heap_setCell_other _ ⟨w.heap.size + 2, 11, none⟩ (w.heap.size + 1) (.int .i64 x.py) (by simp)).trans ((heap_setCell_other _ ⟨w.heap.size + 2, 10, none⟩ (w.heap.size + 1) (.int .i64 x.pk) (by simp)).trans HZ.out))))
 have s0 := Below.setCell HW.out (p := ⟨w.heap.size + 2, 10, none⟩) (show w.heap.size ≤ w.heap.size + 2 by omega) (.int .i64 x.pk)
 have s1 := Below.setCell s0 (p := ⟨w.heap.size + 2, 11, none⟩) (show w.heap.size ≤ w.heap.size + 2 by omega) (.int .i64 x.py)
 have s2 := Below.setCell s1 (p := ⟨w.heap.size + 2, 12, none⟩) (show w.heap.size ≤ w.heap.size + 2 by omega) (.int .i64 x.pi)
 have s3 := Below.setCell s2 (p := ⟨w.heap.size + 2, 7, none⟩) (show w.heap.size ≤ w.heap.size + 2 by omega) (.int .i64 x.num)
 have HW2 := Lib.hid s3
 clear s0 s1 s2 s3
 have HI := Lib.hid (And.intro (cmd_info (only7_size x)) (show (only7 x).all (·.oneCell') = true by rw [show (only7 x) = #[.int .i64 7, .string ⟨#[]⟩, .string ⟨#[]⟩, .int .i64 0, .int .i64 0, .int .i64 0, .int .i64 0, .int .i64 x.num, .int .i64 0, .int .i64 0, .int .i64 x.pk, .int .i64 x.py, .int .i64 x.pi, .string ⟨#[]⟩, .bool false, .bool false, .string ⟨#[]⟩, .int .i64 0, .string ⟨#[]⟩, .string ⟨#[]⟩, .string ⟨#[]⟩, .slice none 0 0] by simp [only7, kindZ]]; simp [Value.oneCell']))
 have HSZ := Lib.hid (only7_size x)
 clear hk h10 h11 h12 h7 HA HZ HO HW
 go_upto_region 37 with fail
 generalize hx : ((((wb.setCell ⟨w.heap.size + 2, 10, none⟩ (.int .i64 x.pk)).setCell ⟨w.heap.size + 2, 11, none⟩ (.int .i64 x.py)).setCell ⟨w.heap.size + 2, 12, none⟩ (.int .i64 x.pi)).setCell ⟨w.heap.size + 2, 7, none⟩ (.int .i64 x.num)) = wc at HB HZ2 HW2 ⊢
 clear hx c10 o10 f10 c11 o11 f11 c12 o12 f12 c7 o7 f7
 go_wp2_with ((with_reducible refine wpList_load_row (o := ⟨some 98, _, _, _, _, _⟩) ?a1 28 (.tmp 3) ?a2 (w.heap.size + 2) ?a3 28 (only7 x) (0, 0) _ HB.out Tryz.underlying28 ?a4 HI.out.1 ?_); (case a1 => rfl); (case a2 => rfl); (case a3 => rfl); (case a4 => rfl); refine Stop.out ?_)
 unfold Stop
 go_wp2_with ((with_reducible refine wpList_store_row (o := ⟨none, _, _, _, _, _⟩) ?b1 28 (.tmp 2) (.tmp 98) ?b2 (w.heap.size + 1) (only7 x) ?b3 ?b4 28 zeroCmd HZ2.out HI.out.1 ?b5 HI.out.2 ?_); (case b1 => rfl); (case b2 => rfl); (case b3 => rfl); (case b4 => rfl); (case b5 => exact HSZ.out.symm); have HP9 := Lib.hid (setRow_heap wc (w.heap.size + 1) _ (only7 x) _ _ HZ2.out); have HB9 := Lib.hid (below_setRow HW2.out (g := w.heap.size + 1) (by omega) (only7 x)); refine Stop.out ?_)
 unfold Stop
 go_wp2
 exact bodyPost_ret (v := .agg (only7 x)) (results_cell_row Tryz.results23 _ _ (w.heap.size + 1) 28 (only7 x) (0, 0) _ rfl HP9.out Tryz.underlying28 rfl HI.out.1) rfl ⟨rfl, HB9.out⟩
def only8 (x : CmdV) : Array Value := ((((((((((kindZ 8).setIfInBounds 13 (.string x.id)).setIfInBounds 14 (.bool x.sale)).setIfInBounds 15 (.bool x.credit)).setIfInBounds 16 (.string x.refers)).setIfInBounds 17 (.int .i64 x.day)).setIfInBounds 18 (.string x.country)).setIfInBounds 19 (.string x.number)).setIfInBounds 20 (.string x.currency)).setIfInBounds 21 (.slice x.linesA x.lines.length x.linesC))
theorem only8_size (x : CmdV) : (only8 x).size = 22 := by unfold only8; simp [kindZ_size]
set_option maxHeartbeats 2000000 in
theorem bare_8 (cs : Array Value) (x : CmdV) (w : World) (hk : cs[0]? = some (.int .i64 8)) (h13 : cs[13]? = some (.string x.id)) (h14 : cs[14]? = some (.bool x.sale)) (h15 : cs[15]? = some (.bool x.credit)) (h16 : cs[16]? = some (.string x.refers)) (h17 : cs[17]? = some (.int .i64 x.day)) (h18 : cs[18]? = some (.string x.country)) (h19 : cs[19]? = some (.string x.number)) (h20 : cs[20]? = some (.string x.currency)) (h21 : cs[21]? = some (.slice x.linesA x.lines.length x.linesC)) : Calls Tryz.prog 23 #[.agg cs] w fun e w1 => e = .returned (.agg (only8 x)) ∧ Below w.heap.size w w1 := by
 have hb0 := heap_alloc_new w (.cells cs 28)
 have hb1 := heap_alloc_new (w.alloc (.cells cs 28)) (.cells zeroCmd 28)
 simp only [World.size_alloc] at hb1
 have HA := Lib.hid (heap_on (below_alloc (w.alloc (.cells cs 28)) (.cells zeroCmd 28)) hb0)
 have HZ := Lib.hid hb1
 have HW := Lib.hid (show Below w.heap.size w ((w.alloc (.cells cs 28)).alloc (.cells zeroCmd 28)) from below_more (below_alloc _ _))
 have HN : Hid (((w.alloc (.cells cs 28)).alloc (.cells zeroCmd 28)).heap.size = w.heap.size + 2) := Lib.hid (by simp)
 have a0 : ((w.alloc (.cells cs 28)).alloc (.cells zeroCmd 28)).cell? ⟨w.heap.size, 0, none⟩ = some (.int .i64 8) := (cell_of_row _ _ 0 _ _ _ HA.out).trans hk
 clear hb0 hb1
 go_enter Tryz.func23, Tryz.ntmps23
 go_upto_region 1 with fail
 generalize World.alloc (World.alloc w _) _ = w2 at HA HZ HW HN a0 ⊢
 have hN := HN.out
 have HX2 : Hid ((w2.alloc (.cells zeroCmd 28)).heap[w.heap.size + 2]? = some (.cells zeroCmd 28 (0, 0))) := Lib.hid (by rw [← hN]; exact heap_alloc_new w2 _)
 have HO1 : Hid ((kindZ 8).all (·.oneCell') = true) := Lib.hid (by simp [Value.oneCell', kindZ])
 have HA2 := Lib.hid (heap_on (below_alloc w2 (.cells zeroCmd 28)) HA.out)
 have HZ2 := Lib.hid (heap_on (below_alloc w2 (.cells zeroCmd 28)) HZ.out)
 have HW2 := Lib.hid (below_then HW.out (below_alloc w2 (.cells zeroCmd 28)))
 go_wp2_with ((with_reducible refine wpList_store_row (o := ⟨none, _, _, _, _, _⟩) ?b1 28 (.tmp 3) (.tmp 6) ?b2 (w.heap.size + 2) (kindZ 8) ?b3 ?b4 28 zeroCmd HX2.out ?b5 ?b6 ?b7 ?_); (case b1 => rfl); (case b2 => rfl); (case b3 => rfl); (case b4 => rfl); (case b5 => exact cmd_info rfl); (case b6 => rfl); (case b7 => exact HO1.out); refine Stop.out ?_)
 unfold Stop
 have HO := Lib.hid (setRow_heap (w2.alloc (.cells zeroCmd 28)) (w.heap.size + 2) _ (kindZ 8) _ _ HX2.out)
 have HA3 := Lib.hid ((setRow_other (w2.alloc (.cells zeroCmd 28)) (w.heap.size + 2) w.heap.size (kindZ 8) (by omega)).trans HA2.out)
 have HZ3 := Lib.hid ((setRow_other (w2.alloc (.cells zeroCmd 28)) (w.heap.size + 2) (w.heap.size + 1) (kindZ 8) (by omega)).trans HZ2.out)
 have HW3 := Lib.hid (below_setRow HW2.out (g := w.heap.size + 2) (by omega) (kindZ 8))
 generalize World.setRow _ _ _ = wb at HO HA3 HZ3 HW3 ⊢
 clear HA HZ HW HN hN HX2 HO1 HA2 HZ2 HW2 a0
 have HA := HA3
 have HZ := HZ3
 have HW := HW3
 clear HA3 HZ3 HW3
 have HO2 : Hid (wb.heap[w.heap.size + 2]? = some (.cells (kindZ 8) 28 (0, 0))) := HO
 clear HO
 have HO := HO2
 clear HO2
 have a0 : wb.cell? ⟨w.heap.size, 0, none⟩ = some (.int .i64 8) := (cell_of_row _ _ 0 _ _ _ HA.out).trans hk
 generalize Value.agg (kindZ 8) = vk
 go_upto_region 32 with fail
 clear a0
 have c13 := (cell_of_row wb w.heap.size 13 _ _ _ HA.out).trans h13
 have o13 : wb.cell? ⟨w.heap.size + 2, 13, none⟩ = some (.string ⟨#[]⟩) := (cell_of_row wb (w.heap.size + 2) 13 _ _ _ HO.out).trans rfl
 have f13 := frozen_of_row wb (w.heap.size + 2) 13 _ _ HO.out
 have c14 := (cell_of_row wb w.heap.size 14 _ _ _ HA.out).trans h14
 have o14 : wb.cell? ⟨w.heap.size + 2, 14, none⟩ = some (.bool false) := (cell_of_row wb (w.heap.size + 2) 14 _ _ _ HO.out).trans rfl
 have f14 := frozen_of_row wb (w.heap.size + 2) 14 _ _ HO.out
 have c15 := (cell_of_row wb w.heap.size 15 _ _ _ HA.out).trans h15
 have o15 : wb.cell? ⟨w.heap.size + 2, 15, none⟩ = some (.bool false) := (cell_of_row wb (w.heap.size + 2) 15 _ _ _ HO.out).trans rfl
 have f15 := frozen_of_row wb (w.heap.size + 2) 15 _ _ HO.out
 have c16 := (cell_of_row wb w.heap.size 16 _ _ _ HA.out).trans h16
 have o16 : wb.cell? ⟨w.heap.size + 2, 16, none⟩ = some (.string ⟨#[]⟩) := (cell_of_row wb (w.heap.size + 2) 16 _ _ _ HO.out).trans rfl
 have f16 := frozen_of_row wb (w.heap.size + 2) 16 _ _ HO.out
 have c17 := (cell_of_row wb w.heap.size 17 _ _ _ HA.out).trans h17
 have o17 : wb.cell? ⟨w.heap.size + 2, 17, none⟩ = some (.int .i64 0) := (cell_of_row wb (w.heap.size + 2) 17 _ _ _ HO.out).trans rfl
 have f17 := frozen_of_row wb (w.heap.size + 2) 17 _ _ HO.out
 have c18 := (cell_of_row wb w.heap.size 18 _ _ _ HA.out).trans h18
 have o18 : wb.cell? ⟨w.heap.size + 2, 18, none⟩ = some (.string ⟨#[]⟩) := (cell_of_row wb (w.heap.size + 2) 18 _ _ _ HO.out).trans rfl
 have f18 := frozen_of_row wb (w.heap.size + 2) 18 _ _ HO.out
 have c19 := (cell_of_row wb w.heap.size 19 _ _ _ HA.out).trans h19
 have o19 : wb.cell? ⟨w.heap.size + 2, 19, none⟩ = some (.string ⟨#[]⟩) := (cell_of_row wb (w.heap.size + 2) 19 _ _ _ HO.out).trans rfl
 have f19 := frozen_of_row wb (w.heap.size + 2) 19 _ _ HO.out
 have c20 := (cell_of_row wb w.heap.size 20 _ _ _ HA.out).trans h20
 have o20 : wb.cell? ⟨w.heap.size + 2, 20, none⟩ = some (.string ⟨#[]⟩) := (cell_of_row wb (w.heap.size + 2) 20 _ _ _ HO.out).trans rfl
 have f20 := frozen_of_row wb (w.heap.size + 2) 20 _ _ HO.out
 have c21 := (cell_of_row wb w.heap.size 21 _ _ _ HA.out).trans h21
 have o21 : wb.cell? ⟨w.heap.size + 2, 21, none⟩ = some (.slice none 0 0) := (cell_of_row wb (w.heap.size + 2) 21 _ _ _ HO.out).trans rfl
 have f21 := frozen_of_row wb (w.heap.size + 2) 21 _ _ HO.out
 have q0 : ((wb.setCell ⟨w.heap.size + 2, 13, none⟩ (.string x.id))).heap[w.heap.size + 2]? = some (.cells ((kindZ 8).setIfInBounds 13 (.string x.id)) 28 (0, 0)) := heap_setCell_same _ (w.heap.size + 2) 13 _ _ _ HO.out
 have q1 : (((wb.setCell ⟨w.heap.size + 2, 13, none⟩ (.string x.id)).setCell ⟨w.heap.size + 2, 14, none⟩ (.bool x.sale))).heap[w.heap.size + 2]? = some (.cells (((kindZ 8).setIfInBounds 13 (.string x.id)).setIfInBounds 14 (.bool x.sale)) 28 (0, 0)) := heap_setCell_same _ (w.heap.size + 2) 14 _ _ _ q0
 have q2 : ((((wb.setCell ⟨w.heap.size + 2, 13, none⟩ (.string x.id)).setCell ⟨w.heap.size + 2, 14, none⟩ (.bool x.sale)).setCell ⟨w.heap.size + 2, 15, none⟩ (.bool x.credit))).heap[w.heap.size + 2]? = some (.cells ((((kindZ 8).setIfInBounds 13 (.string x.id)).setIfInBounds 14 (.bool x.sale)).setIfInBounds 15 (.bool x.credit)) 28 (0, 0)) := heap_setCell_same _ (w.heap.size + 2) 15 _ _ _ q1
 have q3 : (((((wb.setCell ⟨w.heap.size + 2, 13, none⟩ (.string x.id)).setCell ⟨w.heap.size + 2, 14, none⟩ (.bool x.sale)).setCell ⟨w.heap.size + 2, 15, none⟩ (.bool x.credit)).setCell ⟨w.heap.size + 2, 16, none⟩ (.string x.refers))).heap[w.heap.size + 2]? = some (.cells (((((kindZ 8).setIfInBounds 13 (.string x.id)).setIfInBounds 14 (.bool x.sale)).setIfInBounds 15 (.bool x.credit)).setIfInBounds 16 (.string x.refers)) 28 (0, 0)) := heap_setCell_same _ (w.heap.size + 2) 16 _ _ _ q2
 have q4 : ((((((wb.setCell ⟨w.heap.size + 2, 13, none⟩ (.string x.id)).setCell ⟨w.heap.size + 2, 14, none⟩ (.bool x.sale)).setCell ⟨w.heap.size + 2, 15, none⟩ (.bool x.credit)).setCell ⟨w.heap.size + 2, 16, none⟩ (.string x.refers)).setCell ⟨w.heap.size + 2, 17, none⟩ (.int .i64 x.day))).heap[w.heap.size + 2]? = some (.cells ((((((kindZ 8).setIfInBounds 13 (.string x.id)).setIfInBounds 14 (.bool x.sale)).setIfInBounds 15 (.bool x.credit)).setIfInBounds 16 (.string x.refers)).setIfInBounds 17 (.int .i64 x.day)) 28 (0, 0)) := heap_setCell_same _ (w.heap.size + 2) 17 _ _ _ q3
 have q5 : (((((((wb.setCell ⟨w.heap.size + 2, 13, none⟩ (.string x.id)).setCell ⟨w.heap.size + 2, 14, none⟩ (.bool x.sale)).setCell ⟨w.heap.size + 2, 15, none⟩ (.bool x.credit)).setCell ⟨w.heap.size + 2, 16, none⟩ (.string x.refers)).setCell ⟨w.heap.size + 2, 17, none⟩ (.int .i64 x.day)).setCell ⟨w.heap.size + 2, 18, none⟩ (.string x.country))).heap[w.heap.size + 2]? = some (.cells (((((((kindZ 8).setIfInBounds 13 (.string x.id)).setIfInBounds 14 (.bool x.sale)).setIfInBounds 15 (.bool x.credit)).setIfInBounds 16 (.string x.refers)).setIfInBounds 17 (.int .i64 x.day)).setIfInBounds 18 (.string x.country)) 28 (0, 0)) := heap_setCell_same _ (w.heap.size + 2) 18 _ _ _ q4
 have q6 : ((((((((wb.setCell ⟨w.heap.size + 2, 13, none⟩ (.string x.id)).setCell ⟨w.heap.size + 2, 14, none⟩ (.bool x.sale)).setCell ⟨w.heap.size + 2, 15, none⟩ (.bool x.credit)).setCell ⟨w.heap.size + 2, 16, none⟩ (.string x.refers)).setCell ⟨w.heap.size + 2, 17, none⟩ (.int .i64 x.day)).setCell ⟨w.heap.size + 2, 18, none⟩ (.string x.country)).setCell ⟨w.heap.size + 2, 19, none⟩ (.string x.number))).heap[w.heap.size + 2]? = some (.cells ((((((((kindZ 8).setIfInBounds 13 (.string x.id)).setIfInBounds 14 (.bool x.sale)).setIfInBounds 15 (.bool x.credit)).setIfInBounds 16 (.string x.refers)).setIfInBounds 17 (.int .i64 x.day)).setIfInBounds 18 (.string x.country)).setIfInBounds 19 (.string x.number)) 28 (0, 0)) := heap_setCell_same _ (w.heap.size + 2) 19 _ _ _ q5
 have q7 : (((((((((wb.setCell ⟨w.heap.size + 2, 13, none⟩ (.string x.id)).setCell ⟨w.heap.size + 2, 14, none⟩ (.bool x.sale)).setCell ⟨w.heap.size + 2, 15, none⟩ (.bool x.credit)).setCell ⟨w.heap.size + 2, 16, none⟩ (.string x.refers)).setCell ⟨w.heap.size + 2, 17, none⟩ (.int .i64 x.day)).setCell ⟨w.heap.size + 2, 18, none⟩ (.string x.country)).setCell ⟨w.heap.size + 2, 19, none⟩ (.string x.number)).setCell ⟨w.heap.size + 2, 20, none⟩ (.string x.currency))).heap[w.heap.size + 2]? = some (.cells (((((((((kindZ 8).setIfInBounds 13 (.string x.id)).setIfInBounds 14 (.bool x.sale)).setIfInBounds 15 (.bool x.credit)).setIfInBounds 16 (.string x.refers)).setIfInBounds 17 (.int .i64 x.day)).setIfInBounds 18 (.string x.country)).setIfInBounds 19 (.string x.number)).setIfInBounds 20 (.string x.currency)) 28 (0, 0)) := heap_setCell_same _ (w.heap.size + 2) 20 _ _ _ q6
 have q8 : ((((((((((wb.setCell ⟨w.heap.size + 2, 13, none⟩ (.string x.id)).setCell ⟨w.heap.size + 2, 14, none⟩ (.bool x.sale)).setCell ⟨w.heap.size + 2, 15, none⟩ (.bool x.credit)).setCell ⟨w.heap.size + 2, 16, none⟩ (.string x.refers)).setCell ⟨w.heap.size + 2, 17, none⟩ (.int .i64 x.day)).setCell ⟨w.heap.size + 2, 18, none⟩ (.string x.country)).setCell ⟨w.heap.size + 2, 19, none⟩ (.string x.number)).setCell ⟨w.heap.size + 2, 20, none⟩ (.string x.currency)).setCell ⟨w.heap.size + 2, 21, none⟩ (.slice x.linesA x.lines.length x.linesC))).heap[w.heap.size + 2]? = some (.cells ((((((((((kindZ 8).setIfInBounds 13 (.string x.id)).setIfInBounds 14 (.bool x.sale)).setIfInBounds 15 (.bool x.credit)).setIfInBounds 16 (.string x.refers)).setIfInBounds 17 (.int .i64 x.day)).setIfInBounds 18 (.string x.country)).setIfInBounds 19 (.string x.number)).setIfInBounds 20 (.string x.currency)).setIfInBounds 21 (.slice x.linesA x.lines.length x.linesC)) 28 (0, 0)) := heap_setCell_same _ (w.heap.size + 2) 21 _ _ _ q7
 have HB := Lib.hid (show ((((((((((wb.setCell ⟨w.heap.size + 2, 13, none⟩ (.string x.id)).setCell ⟨w.heap.size + 2, 14, none⟩ (.bool x.sale)).setCell ⟨w.heap.size + 2, 15, none⟩ (.bool x.credit)).setCell ⟨w.heap.size + 2, 16, none⟩ (.string x.refers)).setCell ⟨w.heap.size + 2, 17, none⟩ (.int .i64 x.day)).setCell ⟨w.heap.size + 2, 18, none⟩ (.string x.country)).setCell ⟨w.heap.size + 2, 19, none⟩ (.string x.number)).setCell ⟨w.heap.size + 2, 20, none⟩ (.string x.currency)).setCell ⟨w.heap.size + 2, 21, none⟩ (.slice x.linesA x.lines.length x.linesC))).heap[w.heap.size + 2]? = some (.cells (only8 x) 28 (0, 0)) from q8)
 clear q0 q1 q2 q3 q4 q5 q6 q7 q8
 have HZ2 : Hid (((((((((((wb.setCell ⟨w.heap.size + 2, 13, none⟩ (.string x.id)).setCell ⟨w.heap.size + 2, 14, none⟩ (.bool x.sale)).setCell ⟨w.heap.size + 2, 15, none⟩ (.bool x.credit)).setCell ⟨w.heap.size + 2, 16, none⟩ (.string x.refers)).setCell ⟨w.heap.size + 2, 17, none⟩ (.int .i64 x.day)).setCell ⟨w.heap.size + 2, 18, none⟩ (.string x.country)).setCell ⟨w.heap.size + 2, 19, none⟩ (.string x.number)).setCell ⟨w.heap.size + 2, 20, none⟩ (.string x.currency)).setCell ⟨w.heap.size + 2, 21, none⟩ (.slice x.linesA x.lines.length x.linesC))).heap[w.heap.size + 1]? = some (.cells zeroCmd 28 (0, 0))) := Lib.hid ((heap_setCell_other _ ⟨w.heap.size + 2, 21, none⟩ (w.heap.size + 1) (.slice x.linesA x.lines.length x.linesC) (by simp)).trans ((heap_setCell_other _ ⟨w.heap.size + 2, 20, none⟩ (w.heap.size + 1) (.string x.currency) (by simp)).trans ((heap_setCell_other _ ⟨w.heap.size + 2, 19, none⟩ (w.heap.size + 1) (.string x.number) (by simp)).trans ((heap_setCell_other _ ⟨w.heap.size + 2, 18, none⟩ (w.heap.size + 1) (.string x.country) (by simp)).trans ((heap_setCell_other _ ⟨w.heap.size + 2, 17, none⟩ (w.heap.size + 1) (.int .i64 x.day) (by simp)).trans ((heap_setCell_other _ ⟨w.heap.size + 2, 16, none⟩ (w.heap.size + 1) (.string x.refers) (by simp)).trans ((heap_setCell_other _ ⟨w.heap.size + 2, 15, none⟩ (w.heap.size + 1) (.bool x.credit) (by simp)).trans ((heap_setCell_other _ ⟨w.heap.size + 2, 14, none⟩ (w.heap.size + 1) (.bool x.sale) (by simp)).trans ((heap_setCell_other _ ⟨w.heap.size + 2, 13, none⟩ (w.heap.size + 1) (.string x.id) (by simp)).trans HZ.out)))))))))
 have s0 := Below.setCell HW.out (p := ⟨w.heap.size + 2, 13, none⟩) (show w.heap.size ≤ w.heap.size + 2 by omega) (.string x.id)
 have s1 := Below.setCell s0 (p := ⟨w.heap.size + 2, 14, none⟩) (show w.heap.size ≤ w.heap.size + 2 by omega) (.bool x.sale)
 have s2 := Below.setCell s1 (p := ⟨w.heap.size + 2, 15, none⟩) (show w.heap.size ≤ w.heap.size + 2 by omega) (.bool x.credit)
 have s3 := Below.setCell s2 (p := ⟨w.heap.size + 2, 16, none⟩) (show w.heap.size ≤ w.heap.size + 2 by omega) (.string x.refers)
 have s4 := Below.setCell s3 (p := ⟨w.heap.size + 2, 17, none⟩) (show w.heap.size ≤ w.heap.size + 2 by omega) (.int .i64 x.day)
 have s5 := Below.setCell s4 (p := ⟨w.heap.size + 2, 18, none⟩) (show w.heap.size ≤ w.heap.size + 2 by omega) (.string x.country)
 have s6 := Below.setCell s5 (p := ⟨w.heap.size + 2, 19, none⟩) (show w.heap.size ≤ w.heap.size + 2 by omega) (.string x.number)
 have s7 := Below.setCell s6 (p := ⟨w.heap.size + 2, 20, none⟩) (show w.heap.size ≤ w.heap.size + 2 by omega) (.string x.currency)
 have s8 := Below.setCell s7 (p := ⟨w.heap.size + 2, 21, none⟩) (show w.heap.size ≤ w.heap.size + 2 by omega) (.slice x.linesA x.lines.length x.linesC)
 have HW2 := Lib.hid s8
 clear s0 s1 s2 s3 s4 s5 s6 s7 s8
 have HI := Lib.hid (And.intro (cmd_info (only8_size x)) (show (only8 x).all (·.oneCell') = true by rw [show (only8 x) = #[.int .i64 8, .string ⟨#[]⟩, .string ⟨#[]⟩, .int .i64 0, .int .i64 0, .int .i64 0, .int .i64 0, .int .i64 0, .int .i64 0, .int .i64 0, .int .i64 0, .int .i64 0, .int .i64 0, .string x.id, .bool x.sale, .bool x.credit, .string x.refers, .int .i64 x.day, .string x.country, .string x.number, .string x.currency, .slice x.linesA x.lines.length x.linesC] by simp [only8, kindZ]]; simp [Value.oneCell']))
 have HSZ := Lib.hid (only8_size x)
 clear hk h13 h14 h15 h16 h17 h18 h19 h20 h21 HA HZ HO HW
 go_upto_region 37 with fail
 generalize hx : (((((((((wb.setCell ⟨w.heap.size + 2, 13, none⟩ (.string x.id)).setCell ⟨w.heap.size + 2, 14, none⟩ (.bool x.sale)).setCell ⟨w.heap.size + 2, 15, none⟩ (.bool x.credit)).setCell ⟨w.heap.size + 2, 16, none⟩ (.string x.refers)).setCell ⟨w.heap.size + 2, 17, none⟩ (.int .i64 x.day)).setCell ⟨w.heap.size + 2, 18, none⟩ (.string x.country)).setCell ⟨w.heap.size + 2, 19, none⟩ (.string x.number)).setCell ⟨w.heap.size + 2, 20, none⟩ (.string x.currency)).setCell ⟨w.heap.size + 2, 21, none⟩ (.slice x.linesA x.lines.length x.linesC)) = wc at HB HZ2 HW2 ⊢
 clear hx c13 o13 f13 c14 o14 f14 c15 o15 f15 c16 o16 f16 c17 o17 f17 c18 o18 f18 c19 o19 f19 c20 o20 f20 c21 o21 f21
 go_wp2_with ((with_reducible refine wpList_load_row (o := ⟨some 98, _, _, _, _, _⟩) ?a1 28 (.tmp 3) ?a2 (w.heap.size + 2) ?a3 28 (only8 x) (0, 0) _ HB.out Tryz.underlying28 ?a4 HI.out.1 ?_); (case a1 => rfl); (case a2 => rfl); (case a3 => rfl); (case a4 => rfl); refine Stop.out ?_)
 unfold Stop
 go_wp2_with ((with_reducible refine wpList_store_row (o := ⟨none, _, _, _, _, _⟩) ?b1 28 (.tmp 2) (.tmp 98) ?b2 (w.heap.size + 1) (only8 x) ?b3 ?b4 28 zeroCmd HZ2.out HI.out.1 ?b5 HI.out.2 ?_); (case b1 => rfl); (case b2 => rfl); (case b3 => rfl); (case b4 => rfl); (case b5 => exact HSZ.out.symm); have HP9 := Lib.hid (setRow_heap wc (w.heap.size + 1) _ (only8 x) _ _ HZ2.out); have HB9 := Lib.hid (below_setRow HW2.out (g := w.heap.size + 1) (by omega) (only8 x)); refine Stop.out ?_)
 unfold Stop
 go_wp2
 exact bodyPost_ret (v := .agg (only8 x)) (results_cell_row Tryz.results23 _ _ (w.heap.size + 1) 28 (only8 x) (0, 0) _ rfl HP9.out Tryz.underlying28 rfl HI.out.1) rfl ⟨rfl, HB9.out⟩
end Go.Proofs.YtmjjenemokojjaaGreat
