/- Commands without the fields that their kind names: the program's, the other kinds. Commands without the fields that their kind names: the program's, the other kinds. Commands without the fields that their kind names: the program's, the other kinds. -/
import Derived.Test.YtmjjenemokojjaaGreatD11
import Derived.WalkMore
namespace Go.Proofs.YtmjjenemokojjaaGreat
open Go.RowKit
set_option maxRecDepth 100000
set_option linter.unusedSimpArgs false
set_option linter.unusedVariables false

def bare1 (cs : Array Value) : Array Value := (((cs.setIfInBounds 1 (.string ⟨#[]⟩)).setIfInBounds 9 (.int .i64 0)).setIfInBounds 5 (.int .i64 0))
theorem bare1_size (cs : Array Value) : (bare1 cs).size = cs.size := by unfold bare1; simp
set_option maxHeartbeats 2000000 in
theorem unnamed_1 (cs : Array Value) (w : World) (hs : cs.size = 22) (hk : cs[0]? = some (.int .i64 1)) (h1 : (bare1 cs).all (·.oneCell') = true) : Calls Tryz.prog 22 #[.agg cs] w fun e w1 => e = .returned (.agg (bare1 cs)) ∧ Below w.heap.size w w1 := by
 have hb0 := heap_alloc_new w (.cells cs 28)
 have hb1 := heap_alloc_new (w.alloc (.cells cs 28)) (.cells zeroCmd 28)
 simp only [World.size_alloc] at hb1
 have HA := Lib.hid (heap_on (below_alloc (w.alloc (.cells cs 28)) (.cells zeroCmd 28)) hb0)
 have HZ := Lib.hid hb1
 have HW := Lib.hid (show Below w.heap.size w ((w.alloc (.cells cs 28)).alloc (.cells zeroCmd 28)) from below_more (below_alloc _ _))
 have a0 : ((w.alloc (.cells cs 28)).alloc (.cells zeroCmd 28)).cell? ⟨w.heap.size, 0, none⟩ = some (.int .i64 1) := (cell_of_row _ _ 0 _ _ _ HA.out).trans hk
 clear hb0 hb1
 go_enter Tryz.func22, Tryz.ntmps22
 go_upto_region 13 with fail
 generalize hx : World.alloc (World.alloc w _) _ = wb at HA HZ HW a0 ⊢
 clear hx a0
 obtain ⟨v1, c1⟩ : ∃ v, wb.cell? ⟨w.heap.size, 1, none⟩ = some v := ⟨_, (cell_of_row wb w.heap.size 1 _ _ _ HA.out).trans (Array.getElem?_eq_getElem (i := 1) (by rw [hs]; omega))⟩
 have f1 := frozen_of_row wb w.heap.size 1 _ _ HA.out
 obtain ⟨v9, c9⟩ : ∃ v, wb.cell? ⟨w.heap.size, 9, none⟩ = some v := ⟨_, (cell_of_row wb w.heap.size 9 _ _ _ HA.out).trans (Array.getElem?_eq_getElem (i := 9) (by rw [hs]; omega))⟩
 have f9 := frozen_of_row wb w.heap.size 9 _ _ HA.out
 obtain ⟨v5, c5⟩ : ∃ v, wb.cell? ⟨w.heap.size, 5, none⟩ = some v := ⟨_, (cell_of_row wb w.heap.size 5 _ _ _ HA.out).trans (Array.getElem?_eq_getElem (i := 5) (by rw [hs]; omega))⟩
 have f5 := frozen_of_row wb w.heap.size 5 _ _ HA.out
 have q0 : ((wb.setCell ⟨w.heap.size, 1, none⟩ (.string ⟨#[]⟩))).heap[w.heap.size]? = some (.cells (cs.setIfInBounds 1 (.string ⟨#[]⟩)) 28 (0, 0)) := heap_setCell_same _ w.heap.size 1 _ _ _ HA.out
 have q1 : (((wb.setCell ⟨w.heap.size, 1, none⟩ (.string ⟨#[]⟩)).setCell ⟨w.heap.size, 9, none⟩ (.int .i64 0))).heap[w.heap.size]? = some (.cells ((cs.setIfInBounds 1 (.string ⟨#[]⟩)).setIfInBounds 9 (.int .i64 0)) 28 (0, 0)) := heap_setCell_same _ w.heap.size 9 _ _ _ q0
 have q2 : ((((wb.setCell ⟨w.heap.size, 1, none⟩ (.string ⟨#[]⟩)).setCell ⟨w.heap.size, 9, none⟩ (.int .i64 0)).setCell ⟨w.heap.size, 5, none⟩ (.int .i64 0))).heap[w.heap.size]? = some (.cells (((cs.setIfInBounds 1 (.string ⟨#[]⟩)).setIfInBounds 9 (.int .i64 0)).setIfInBounds 5 (.int .i64 0)) 28 (0, 0)) := heap_setCell_same _ w.heap.size 5 _ _ _ q1
 have HB := Lib.hid (show ((((wb.setCell ⟨w.heap.size, 1, none⟩ (.string ⟨#[]⟩)).setCell ⟨w.heap.size, 9, none⟩ (.int .i64 0)).setCell ⟨w.heap.size, 5, none⟩ (.int .i64 0))).heap[w.heap.size]? = some (.cells (bare1 cs) 28 (0, 0)) from q2)
 clear q0 q1 q2
 have HZ2 : Hid (((((wb.setCell ⟨w.heap.size, 1, none⟩ (.string ⟨#[]⟩)).setCell ⟨w.heap.size, 9, none⟩ (.int .i64 0)).setCell ⟨w.heap.size, 5, none⟩ (.int .i64 0))).heap[w.heap.size + 1]? = some (.cells zeroCmd 28 (0, 0))) := Lib.hid ((heap_setCell_other _ ⟨w.heap.size, 5, none⟩ (w.heap.size + 1) (.int .i64 0) (by simp)).trans ((heap_setCell_other _ ⟨w.heap.size, 9, none⟩ (w.heap.size + 1) (.int .i64 0) (by simp)).trans ((heap_setCell_other _ ⟨w.heap.size, 1, none⟩ (w.heap.size + 1) (.string ⟨#[]⟩) (by simp)).trans HZ.out)))
 have s0 := Below.setCell HW.out (p := ⟨w.heap.size, 1, none⟩) (Nat.le_refl _) (.string ⟨#[]⟩)
 have s1 := Below.setCell s0 (p := ⟨w.heap.size, 9, none⟩) (Nat.le_refl _) (.int .i64 0)
 have s2 := Below.setCell s1 (p := ⟨w.heap.size, 5, none⟩) (Nat.le_refl _) (.int .i64 0)
 have HW2 := Lib.hid s2
 clear s0 s1 s2
 have hsz : (bare1 cs).size = 22 := (bare1_size cs).trans hs
 have HI := Lib.hid (And.intro (cmd_info hsz) h1)
 have HSZ := Lib.hid hsz
 clear hs hk h1 hsz HA HZ HW
 go_upto_region 22 with fail
 generalize hx : (((wb.setCell ⟨w.heap.size, 1, none⟩ (.string ⟨#[]⟩)).setCell ⟨w.heap.size, 9, none⟩ (.int .i64 0)).setCell ⟨w.heap.size, 5, none⟩ (.int .i64 0)) = wc at HB HZ2 HW2 ⊢
 clear hx c1 f1 c9 f9 c5 f5
 go_wp2_with ((with_reducible refine wpList_load_row (o := ⟨some 48, _, _, _, _, _⟩) ?a1 28 (.tmp 1) ?a2 w.heap.size ?a3 28 (bare1 cs) (0, 0) _ HB.out Tryz.underlying28 ?a4 HI.out.1 ?_); (case a1 => rfl); (case a2 => rfl); (case a3 => rfl); (case a4 => rfl); refine Stop.out ?_)
 unfold Stop
 go_wp2_with ((with_reducible refine wpList_store_row (o := ⟨none, _, _, _, _, _⟩) ?b1 28 (.tmp 2) (.tmp 48) ?b2 (w.heap.size + 1) (bare1 cs) ?b3 ?b4 28 zeroCmd HZ2.out HI.out.1 ?b5 HI.out.2 ?_); (case b1 => rfl); (case b2 => rfl); (case b3 => rfl); (case b4 => rfl); (case b5 => exact HSZ.out.symm); have HP9 := Lib.hid (setRow_heap wc (w.heap.size + 1) _ (bare1 cs) _ _ HZ2.out); have HB9 := Lib.hid (below_setRow HW2.out (g := w.heap.size + 1) (by omega) (bare1 cs)); refine Stop.out ?_)
 unfold Stop
 go_wp2
 exact bodyPost_ret (v := .agg (bare1 cs)) (results_cell_row Tryz.results22 _ _ (w.heap.size + 1) 28 (bare1 cs) (0, 0) _ rfl HP9.out Tryz.underlying28 rfl HI.out.1) rfl ⟨rfl, HB9.out⟩
def bare2 (cs : Array Value) : Array Value := (((((cs.setIfInBounds 1 (.string ⟨#[]⟩)).setIfInBounds 3 (.int .i64 0)).setIfInBounds 4 (.int .i64 0)).setIfInBounds 5 (.int .i64 0)).setIfInBounds 6 (.int .i64 0))
theorem bare2_size (cs : Array Value) : (bare2 cs).size = cs.size := by unfold bare2; simp
set_option maxHeartbeats 2000000 in
theorem unnamed_2 (cs : Array Value) (w : World) (hs : cs.size = 22) (hk : cs[0]? = some (.int .i64 2)) (h1 : (bare2 cs).all (·.oneCell') = true) : Calls Tryz.prog 22 #[.agg cs] w fun e w1 => e = .returned (.agg (bare2 cs)) ∧ Below w.heap.size w w1 := by
 have hb0 := heap_alloc_new w (.cells cs 28)
 have hb1 := heap_alloc_new (w.alloc (.cells cs 28)) (.cells zeroCmd 28)
 simp only [World.size_alloc] at hb1
 have HA := Lib.hid (heap_on (below_alloc (w.alloc (.cells cs 28)) (.cells zeroCmd 28)) hb0)
 have HZ := Lib.hid hb1
 have HW := Lib.hid (show Below w.heap.size w ((w.alloc (.cells cs 28)).alloc (.cells zeroCmd 28)) from below_more (below_alloc _ _))
 have a0 : ((w.alloc (.cells cs 28)).alloc (.cells zeroCmd 28)).cell? ⟨w.heap.size, 0, none⟩ = some (.int .i64 2) := (cell_of_row _ _ 0 _ _ _ HA.out).trans hk
 clear hb0 hb1
 go_enter Tryz.func22, Tryz.ntmps22
 go_upto_region 14 with fail
 generalize hx : World.alloc (World.alloc w _) _ = wb at HA HZ HW a0 ⊢
 clear hx a0
 obtain ⟨v1, c1⟩ : ∃ v, wb.cell? ⟨w.heap.size, 1, none⟩ = some v := ⟨_, (cell_of_row wb w.heap.size 1 _ _ _ HA.out).trans (Array.getElem?_eq_getElem (i := 1) (by rw [hs]; omega))⟩
 have f1 := frozen_of_row wb w.heap.size 1 _ _ HA.out
 obtain ⟨v3, c3⟩ : ∃ v, wb.cell? ⟨w.heap.size, 3, none⟩ = some v := ⟨_, (cell_of_row wb w.heap.size 3 _ _ _ HA.out).trans (Array.getElem?_eq_getElem (i := 3) (by rw [hs]; omega))⟩
 have f3 := frozen_of_row wb w.heap.size 3 _ _ HA.out
 obtain ⟨v4, c4⟩ : ∃ v, wb.cell? ⟨w.heap.size, 4, none⟩ = some v := ⟨_, (cell_of_row wb w.heap.size 4 _ _ _ HA.out).trans (Array.getElem?_eq_getElem (i := 4) (by rw [hs]; omega))⟩
 have f4 := frozen_of_row wb w.heap.size 4 _ _ HA.out
 obtain ⟨v5, c5⟩ : ∃ v, wb.cell? ⟨w.heap.size, 5, none⟩ = some v := ⟨_, (cell_of_row wb w.heap.size 5 _ _ _ HA.out).trans (Array.getElem?_eq_getElem (i := 5) (by rw [hs]; omega))⟩
 have f5 := frozen_of_row wb w.heap.size 5 _ _ HA.out
 obtain ⟨v6, c6⟩ : ∃ v, wb.cell? ⟨w.heap.size, 6, none⟩ = some v := ⟨_, (cell_of_row wb w.heap.size 6 _ _ _ HA.out).trans (Array.getElem?_eq_getElem (i := 6) (by rw [hs]; omega))⟩
 have f6 := frozen_of_row wb w.heap.size 6 _ _ HA.out
 have q0 : ((wb.setCell ⟨w.heap.size, 1, none⟩ (.string ⟨#[]⟩))).heap[w.heap.size]? = some (.cells (cs.setIfInBounds 1 (.string ⟨#[]⟩)) 28 (0, 0)) := heap_setCell_same _ w.heap.size 1 _ _ _ HA.out
 have q1 : (((wb.setCell ⟨w.heap.size, 1, none⟩ (.string ⟨#[]⟩)).setCell ⟨w.heap.size, 3, none⟩ (.int .i64 0))).heap[w.heap.size]? = some (.cells ((cs.setIfInBounds 1 (.string ⟨#[]⟩)).setIfInBounds 3 (.int .i64 0)) 28 (0, 0)) := heap_setCell_same _ w.heap.size 3 _ _ _ q0
 have q2 : ((((wb.setCell ⟨w.heap.size, 1, none⟩ (.string ⟨#[]⟩)).setCell ⟨w.heap.size, 3, none⟩ (.int .i64 0)).setCell ⟨w.heap.size, 4, none⟩ (.int .i64 0))).heap[w.heap.size]? = some (.cells (((cs.setIfInBounds 1 (.string ⟨#[]⟩)).setIfInBounds 3 (.int .i64 0)).setIfInBounds 4 (.int .i64 0)) 28 (0, 0)) := heap_setCell_same _ w.heap.size 4 _ _ _ q1
 have q3 : (((((wb.setCell ⟨w.heap.size, 1, none⟩ (.string ⟨#[]⟩)).setCell ⟨w.heap.size, 3, none⟩ (.int .i64 0)).setCell ⟨w.heap.size, 4, none⟩ (.int .i64 0)).setCell ⟨w.heap.size, 5, none⟩ (.int .i64 0))).heap[w.heap.size]? = some (.cells ((((cs.setIfInBounds 1 (.string ⟨#[]⟩)).setIfInBounds 3 (.int .i64 0)).setIfInBounds 4 (.int .i64 0)).setIfInBounds 5 (.int .i64 0)) 28 (0, 0)) := heap_setCell_same _ w.heap.size 5 _ _ _ q2
 have q4 : ((((((wb.setCell ⟨w.heap.size, 1, none⟩ (.string ⟨#[]⟩)).setCell ⟨w.heap.size, 3, none⟩ (.int .i64 0)).setCell ⟨w.heap.size, 4, none⟩ (.int .i64 0)).setCell ⟨w.heap.size, 5, none⟩ (.int .i64 0)).setCell ⟨w.heap.size, 6, none⟩ (.int .i64 0))).heap[w.heap.size]? = some (.cells (((((cs.setIfInBounds 1 (.string ⟨#[]⟩)).setIfInBounds 3 (.int .i64 0)).setIfInBounds 4 (.int .i64 0)).setIfInBounds 5 (.int .i64 0)).setIfInBounds 6 (.int .i64 0)) 28 (0, 0)) := heap_setCell_same _ w.heap.size 6 _ _ _ q3
 have HB := Lib.hid (show ((((((wb.setCell ⟨w.heap.size, 1, none⟩ (.string ⟨#[]⟩)).setCell ⟨w.heap.size, 3, none⟩ (.int .i64 0)).setCell ⟨w.heap.size, 4, none⟩ (.int .i64 0)).setCell ⟨w.heap.size, 5, none⟩ (.int .i64 0)).setCell ⟨w.heap.size, 6, none⟩ (.int .i64 0))).heap[w.heap.size]? = some (.cells (bare2 cs) 28 (0, 0)) from q4)
 clear q0 q1 q2 q3 q4
 have HZ2 : Hid (((((((wb.setCell ⟨w.heap.size, 1, none⟩ (.string ⟨#[]⟩)).setCell ⟨w.heap.size, 3, none⟩ (.int .i64 0)).setCell ⟨w.heap.size, 4, none⟩ (.int .i64 0)).setCell ⟨w.heap.size, 5, none⟩ (.int .i64 0)).setCell ⟨w.heap.size, 6, none⟩ (.int .i64 0))).heap[w.heap.size + 1]? = some (.cells zeroCmd 28 (0, 0))) := Lib.hid ((heap_setCell_other _ ⟨w.heap.size, 6, none⟩ (w.heap.size + 1) (.int .i64 0) (by simp)).trans ((heap_setCell_other _ ⟨w.heap.size, 5, none⟩ (w.heap.size + 1) (.int .i64 0) (by simp)).trans ((heap_setCell_other _ ⟨w.heap.size, 4, none⟩ (w.heap.size + 1) (.int .i64 0) (by simp)).trans ((heap_setCell_other _ ⟨w.heap.size, 3, none⟩ (w.heap.size + 1) (.int .i64 0) (by simp)).trans ((heap_setCell_other _ ⟨w.heap.size, 1, none⟩ (w.heap.size + 1) (.string ⟨#[]⟩) (by simp)).trans HZ.out)))))
 have s0 := Below.setCell HW.out (p := ⟨w.heap.size, 1, none⟩) (Nat.le_refl _) (.string ⟨#[]⟩)
 have s1 := Below.setCell s0 (p := ⟨w.heap.size, 3, none⟩) (Nat.le_refl _) (.int .i64 0)
 have s2 := Below.setCell s1 (p := ⟨w.heap.size, 4, none⟩) (Nat.le_refl _) (.int .i64 0)
 have s3 := Below.setCell s2 (p := ⟨w.heap.size, 5, none⟩) (Nat.le_refl _) (.int .i64 0)
 have s4 := Below.setCell s3 (p := ⟨w.heap.size, 6, none⟩) (Nat.le_refl _) (.int .i64 0)
 have HW2 := Lib.hid s4
 clear s0 s1 s2 s3 s4
 have hsz : (bare2 cs).size = 22 := (bare2_size cs).trans hs
 have HI := Lib.hid (And.intro (cmd_info hsz) h1)
 have HSZ := Lib.hid hsz
 clear hs hk h1 hsz HA HZ HW
 go_upto_region 22 with fail
 generalize hx : (((((wb.setCell ⟨w.heap.size, 1, none⟩ (.string ⟨#[]⟩)).setCell ⟨w.heap.size, 3, none⟩ (.int .i64 0)).setCell ⟨w.heap.size, 4, none⟩ (.int .i64 0)).setCell ⟨w.heap.size, 5, none⟩ (.int .i64 0)).setCell ⟨w.heap.size, 6, none⟩ (.int .i64 0)) = wc at HB HZ2 HW2 ⊢
 clear hx c1 f1 c3 f3 c4 f4 c5 f5 c6 f6
 go_wp2_with ((with_reducible refine wpList_load_row (o := ⟨some 48, _, _, _, _, _⟩) ?a1 28 (.tmp 1) ?a2 w.heap.size ?a3 28 (bare2 cs) (0, 0) _ HB.out Tryz.underlying28 ?a4 HI.out.1 ?_); (case a1 => rfl); (case a2 => rfl); (case a3 => rfl); (case a4 => rfl); refine Stop.out ?_)
 unfold Stop
 go_wp2_with ((with_reducible refine wpList_store_row (o := ⟨none, _, _, _, _, _⟩) ?b1 28 (.tmp 2) (.tmp 48) ?b2 (w.heap.size + 1) (bare2 cs) ?b3 ?b4 28 zeroCmd HZ2.out HI.out.1 ?b5 HI.out.2 ?_); (case b1 => rfl); (case b2 => rfl); (case b3 => rfl); (case b4 => rfl); (case b5 => exact HSZ.out.symm); have HP9 := Lib.hid (setRow_heap wc (w.heap.size + 1) _ (bare2 cs) _ _ HZ2.out); have HB9 := Lib.hid (below_setRow HW2.out (g := w.heap.size + 1) (by omega) (bare2 cs)); refine Stop.out ?_)
 unfold Stop
 go_wp2
 exact bodyPost_ret (v := .agg (bare2 cs)) (results_cell_row Tryz.results22 _ _ (w.heap.size + 1) 28 (bare2 cs) (0, 0) _ rfl HP9.out Tryz.underlying28 rfl HI.out.1) rfl ⟨rfl, HB9.out⟩
def bare3 (cs : Array Value) : Array Value := ((cs.setIfInBounds 5 (.int .i64 0)).setIfInBounds 6 (.int .i64 0))
theorem bare3_size (cs : Array Value) : (bare3 cs).size = cs.size := by unfold bare3; simp
set_option maxHeartbeats 2000000 in
theorem unnamed_3 (cs : Array Value) (w : World) (hs : cs.size = 22) (hk : cs[0]? = some (.int .i64 3)) (h1 : (bare3 cs).all (·.oneCell') = true) : Calls Tryz.prog 22 #[.agg cs] w fun e w1 => e = .returned (.agg (bare3 cs)) ∧ Below w.heap.size w w1 := by
 have hb0 := heap_alloc_new w (.cells cs 28)
 have hb1 := heap_alloc_new (w.alloc (.cells cs 28)) (.cells zeroCmd 28)
 simp only [World.size_alloc] at hb1
 have HA := Lib.hid (heap_on (below_alloc (w.alloc (.cells cs 28)) (.cells zeroCmd 28)) hb0)
 have HZ := Lib.hid hb1
 have HW := Lib.hid (show Below w.heap.size w ((w.alloc (.cells cs 28)).alloc (.cells zeroCmd 28)) from below_more (below_alloc _ _))
 have a0 : ((w.alloc (.cells cs 28)).alloc (.cells zeroCmd 28)).cell? ⟨w.heap.size, 0, none⟩ = some (.int .i64 3) := (cell_of_row _ _ 0 _ _ _ HA.out).trans hk
 clear hb0 hb1
 go_enter Tryz.func22, Tryz.ntmps22
 go_upto_region 15 with fail
 generalize hx : World.alloc (World.alloc w _) _ = wb at HA HZ HW a0 ⊢
 clear hx a0
 obtain ⟨v5, c5⟩ : ∃ v, wb.cell? ⟨w.heap.size, 5, none⟩ = some v := ⟨_, (cell_of_row wb w.heap.size 5 _ _ _ HA.out).trans (Array.getElem?_eq_getElem (i := 5) (by rw [hs]; omega))⟩
 have f5 := frozen_of_row wb w.heap.size 5 _ _ HA.out
 obtain ⟨v6, c6⟩ : ∃ v, wb.cell? ⟨w.heap.size, 6, none⟩ = some v := ⟨_, (cell_of_row wb w.heap.size 6 _ _ _ HA.out).trans (Array.getElem?_eq_getElem (i := 6) (by rw [hs]; omega))⟩
 have f6 := frozen_of_row wb w.heap.size 6 _ _ HA.out
 have q0 : ((wb.setCell ⟨w.heap.size, 5, none⟩ (.int .i64 0))).heap[w.heap.size]? = some (.cells (cs.setIfInBounds 5 (.int .i64 0)) 28 (0, 0)) := heap_setCell_same _ w.heap.size 5 _ _ _ HA.out
 have q1 : (((wb.setCell ⟨w.heap.size, 5, none⟩ (.int .i64 0)).setCell ⟨w.heap.size, 6, none⟩ (.int .i64 0))).heap[w.heap.size]? = some (.cells ((cs.setIfInBounds 5 (.int .i64 0)).setIfInBounds 6 (.int .i64 0)) 28 (0, 0)) := heap_setCell_same _ w.heap.size 6 _ _ _ q0
 have HB := Lib.hid (show (((wb.setCell ⟨w.heap.size, 5, none⟩ (.int .i64 0)).setCell ⟨w.heap.size, 6, none⟩ (.int .i64 0))).heap[w.heap.size]? = some (.cells (bare3 cs) 28 (0, 0)) from q1)
 clear q0 q1
 have HZ2 : Hid ((((wb.setCell ⟨w.heap.size, 5, none⟩ (.int .i64 0)).setCell ⟨w.heap.size, 6, none⟩ (.int .i64 0))).heap[w.heap.size + 1]? = some (.cells zeroCmd 28 (0, 0))) := Lib.hid ((heap_setCell_other _ ⟨w.heap.size, 6, none⟩ (w.heap.size + 1) (.int .i64 0) (by simp)).trans ((heap_setCell_other _ ⟨w.heap.size, 5, none⟩ (w.heap.size + 1) (.int .i64 0) (by simp)).trans HZ.out))
 have s0 := Below.setCell HW.out (p := ⟨w.heap.size, 5, none⟩) (Nat.le_refl _) (.int .i64 0)
 have s1 := Below.setCell s0 (p := ⟨w.heap.size, 6, none⟩) (Nat.le_refl _) (.int .i64 0)
 have HW2 := Lib.hid s1
 clear s0 s1
 have hsz : (bare3 cs).size = 22 := (bare3_size cs).trans hs
 have HI := Lib.hid (And.intro (cmd_info hsz) h1)
 have HSZ := Lib.hid hsz
 clear hs hk h1 hsz HA HZ HW
 go_upto_region 22 with fail
 generalize hx : ((wb.setCell ⟨w.heap.size, 5, none⟩ (.int .i64 0)).setCell ⟨w.heap.size, 6, none⟩ (.int .i64 0)) = wc at HB HZ2 HW2 ⊢
 clear hx c5 f5 c6 f6
 go_wp2_with ((with_reducible refine wpList_load_row (o := ⟨some 48, _, _, _, _, _⟩) ?a1 28 (.tmp 1) ?a2 w.heap.size ?a3 28 (bare3 cs) (0, 0) _ HB.out Tryz.underlying28 ?a4 HI.out.1 ?_); (case a1 => rfl); (case a2 => rfl); (case a3 => rfl); (case a4 => rfl); refine Stop.out ?_)
 unfold Stop
 go_wp2_with ((with_reducible refine wpList_store_row (o := ⟨none, _, _, _, _, _⟩) ?b1 28 (.tmp 2) (.tmp 48) ?b2 (w.heap.size + 1) (bare3 cs) ?b3 ?b4 28 zeroCmd HZ2.out HI.out.1 ?b5 HI.out.2 ?_); (case b1 => rfl); (case b2 => rfl); (case b3 => rfl); (case b4 => rfl); (case b5 => exact HSZ.out.symm); have HP9 := Lib.hid (setRow_heap wc (w.heap.size + 1) _ (bare3 cs) _ _ HZ2.out); have HB9 := Lib.hid (below_setRow HW2.out (g := w.heap.size + 1) (by omega) (bare3 cs)); refine Stop.out ?_)
 unfold Stop
 go_wp2
 exact bodyPost_ret (v := .agg (bare3 cs)) (results_cell_row Tryz.results22 _ _ (w.heap.size + 1) 28 (bare3 cs) (0, 0) _ rfl HP9.out Tryz.underlying28 rfl HI.out.1) rfl ⟨rfl, HB9.out⟩
def bare4 (cs : Array Value) : Array Value := ((((cs.setIfInBounds 1 (.string ⟨#[]⟩)).setIfInBounds 2 (.string ⟨#[]⟩)).setIfInBounds 5 (.int .i64 0)).setIfInBounds 6 (.int .i64 0))
theorem bare4_size (cs : Array Value) : (bare4 cs).size = cs.size := by unfold bare4; simp
set_option maxHeartbeats 2000000 in
theorem unnamed_4 (cs : Array Value) (w : World) (hs : cs.size = 22) (hk : cs[0]? = some (.int .i64 4)) (h1 : (bare4 cs).all (·.oneCell') = true) : Calls Tryz.prog 22 #[.agg cs] w fun e w1 => e = .returned (.agg (bare4 cs)) ∧ Below w.heap.size w w1 := by
 have hb0 := heap_alloc_new w (.cells cs 28)
 have hb1 := heap_alloc_new (w.alloc (.cells cs 28)) (.cells zeroCmd 28)
 simp only [World.size_alloc] at hb1
 have HA := Lib.hid (heap_on (below_alloc (w.alloc (.cells cs 28)) (.cells zeroCmd 28)) hb0)
 have HZ := Lib.hid hb1
 have HW := Lib.hid (show Below w.heap.size w ((w.alloc (.cells cs 28)).alloc (.cells zeroCmd 28)) from below_more (below_alloc _ _))
 have a0 : ((w.alloc (.cells cs 28)).alloc (.cells zeroCmd 28)).cell? ⟨w.heap.size, 0, none⟩ = some (.int .i64 4) := (cell_of_row _ _ 0 _ _ _ HA.out).trans hk
 clear hb0 hb1
 go_enter Tryz.func22, Tryz.ntmps22
 go_upto_region 16 with fail
 generalize hx : World.alloc (World.alloc w _) _ = wb at HA HZ HW a0 ⊢
 clear hx a0
 obtain ⟨v1, c1⟩ : ∃ v, wb.cell? ⟨w.heap.size, 1, none⟩ = some v := ⟨_, (cell_of_row wb w.heap.size 1 _ _ _ HA.out).trans (Array.getElem?_eq_getElem (i := 1) (by rw [hs]; omega))⟩
 have f1 := frozen_of_row wb w.heap.size 1 _ _ HA.out
 obtain ⟨v2, c2⟩ : ∃ v, wb.cell? ⟨w.heap.size, 2, none⟩ = some v := ⟨_, (cell_of_row wb w.heap.size 2 _ _ _ HA.out).trans (Array.getElem?_eq_getElem (i := 2) (by rw [hs]; omega))⟩
 have f2 := frozen_of_row wb w.heap.size 2 _ _ HA.out
 obtain ⟨v5, c5⟩ : ∃ v, wb.cell? ⟨w.heap.size, 5, none⟩ = some v := ⟨_, (cell_of_row wb w.heap.size 5 _ _ _ HA.out).trans (Array.getElem?_eq_getElem (i := 5) (by rw [hs]; omega))⟩
 have f5 := frozen_of_row wb w.heap.size 5 _ _ HA.out
 obtain ⟨v6, c6⟩ : ∃ v, wb.cell? ⟨w.heap.size, 6, none⟩ = some v := ⟨_, (cell_of_row wb w.heap.size 6 _ _ _ HA.out).trans (Array.getElem?_eq_getElem (i := 6) (by rw [hs]; omega))⟩
 have f6 := frozen_of_row wb w.heap.size 6 _ _ HA.out
 have q0 : ((wb.setCell ⟨w.heap.size, 1, none⟩ (.string ⟨#[]⟩))).heap[w.heap.size]? = some (.cells (cs.setIfInBounds 1 (.string ⟨#[]⟩)) 28 (0, 0)) := heap_setCell_same _ w.heap.size 1 _ _ _ HA.out
 have q1 : (((wb.setCell ⟨w.heap.size, 1, none⟩ (.string ⟨#[]⟩)).setCell ⟨w.heap.size, 2, none⟩ (.string ⟨#[]⟩))).heap[w.heap.size]? = some (.cells ((cs.setIfInBounds 1 (.string ⟨#[]⟩)).setIfInBounds 2 (.string ⟨#[]⟩)) 28 (0, 0)) := heap_setCell_same _ w.heap.size 2 _ _ _ q0
 have q2 : ((((wb.setCell ⟨w.heap.size, 1, none⟩ (.string ⟨#[]⟩)).setCell ⟨w.heap.size, 2, none⟩ (.string ⟨#[]⟩)).setCell ⟨w.heap.size, 5, none⟩ (.int .i64 0))).heap[w.heap.size]? = some (.cells (((cs.setIfInBounds 1 (.string ⟨#[]⟩)).setIfInBounds 2 (.string ⟨#[]⟩)).setIfInBounds 5 (.int .i64 0)) 28 (0, 0)) := heap_setCell_same _ w.heap.size 5 _ _ _ q1
 have q3 : (((((wb.setCell ⟨w.heap.size, 1, none⟩ (.string ⟨#[]⟩)).setCell ⟨w.heap.size, 2, none⟩ (.string ⟨#[]⟩)).setCell ⟨w.heap.size, 5, none⟩ (.int .i64 0)).setCell ⟨w.heap.size, 6, none⟩ (.int .i64 0))).heap[w.heap.size]? = some (.cells ((((cs.setIfInBounds 1 (.string ⟨#[]⟩)).setIfInBounds 2 (.string ⟨#[]⟩)).setIfInBounds 5 (.int .i64 0)).setIfInBounds 6 (.int .i64 0)) 28 (0, 0)) := heap_setCell_same _ w.heap.size 6 _ _ _ q2
 have HB := Lib.hid (show (((((wb.setCell ⟨w.heap.size, 1, none⟩ (.string ⟨#[]⟩)).setCell ⟨w.heap.size, 2, none⟩ (.string ⟨#[]⟩)).setCell ⟨w.heap.size, 5, none⟩ (.int .i64 0)).setCell ⟨w.heap.size, 6, none⟩ (.int .i64 0))).heap[w.heap.size]? = some (.cells (bare4 cs) 28 (0, 0)) from q3)
 clear q0 q1 q2 q3
 have HZ2 : Hid ((((((wb.setCell ⟨w.heap.size, 1, none⟩ (.string ⟨#[]⟩)).setCell ⟨w.heap.size, 2, none⟩ (.string ⟨#[]⟩)).setCell ⟨w.heap.size, 5, none⟩ (.int .i64 0)).setCell ⟨w.heap.size, 6, none⟩ (.int .i64 0))).heap[w.heap.size + 1]? = some (.cells zeroCmd 28 (0, 0))) := Lib.hid ((heap_setCell_other _ ⟨w.heap.size, 6, none⟩ (w.heap.size + 1) (.int .i64 0) (by simp)).trans ((heap_setCell_other _ ⟨w.heap.size, 5, none⟩ (w.heap.size + 1) (.int .i64 0) (by simp)).trans ((heap_setCell_other _ ⟨w.heap.size, 2, none⟩ (w.heap.size + 1) (.string ⟨#[]⟩) (by simp)).trans ((heap_setCell_other _ ⟨w.heap.size, 1, none⟩ (w.heap.size + 1) (.string ⟨#[]⟩) (by simp)).trans HZ.out))))
 have s0 := Below.setCell HW.out (p := ⟨w.heap.size, 1, none⟩) (Nat.le_refl _) (.string ⟨#[]⟩)
 have s1 := Below.setCell s0 (p := ⟨w.heap.size, 2, none⟩) (Nat.le_refl _) (.string ⟨#[]⟩)
 have s2 := Below.setCell s1 (p := ⟨w.heap.size, 5, none⟩) (Nat.le_refl _) (.int .i64 0)
 have s3 := Below.setCell s2 (p := ⟨w.heap.size, 6, none⟩) (Nat.le_refl _) (.int .i64 0)
 have HW2 := Lib.hid s3
 clear s0 s1 s2 s3
 have hsz : (bare4 cs).size = 22 := (bare4_size cs).trans hs
 have HI := Lib.hid (And.intro (cmd_info hsz) h1)
 have HSZ := Lib.hid hsz
 clear hs hk h1 hsz HA HZ HW
 go_upto_region 22 with fail
 generalize hx : ((((wb.setCell ⟨w.heap.size, 1, none⟩ (.string ⟨#[]⟩)).setCell ⟨w.heap.size, 2, none⟩ (.string ⟨#[]⟩)).setCell ⟨w.heap.size, 5, none⟩ (.int .i64 0)).setCell ⟨w.heap.size, 6, none⟩ (.int .i64 0)) = wc at HB HZ2 HW2 ⊢
 clear hx c1 f1 c2 f2 c5 f5 c6 f6
 go_wp2_with ((with_reducible refine wpList_load_row (o := ⟨some 48, _, _, _, _, _⟩) ?a1 28 (.tmp 1) ?a2 w.heap.size ?a3 28 (bare4 cs) (0, 0) _ HB.out Tryz.underlying28 ?a4 HI.out.1 ?_); (case a1 => rfl); (case a2 => rfl); (case a3 => rfl); (case a4 => rfl); refine Stop.out ?_)
 unfold Stop
 go_wp2_with ((with_reducible refine wpList_store_row (o := ⟨none, _, _, _, _, _⟩) ?b1 28 (.tmp 2) (.tmp 48) ?b2 (w.heap.size + 1) (bare4 cs) ?b3 ?b4 28 zeroCmd HZ2.out HI.out.1 ?b5 HI.out.2 ?_); (case b1 => rfl); (case b2 => rfl); (case b3 => rfl); (case b4 => rfl); (case b5 => exact HSZ.out.symm); have HP9 := Lib.hid (setRow_heap wc (w.heap.size + 1) _ (bare4 cs) _ _ HZ2.out); have HB9 := Lib.hid (below_setRow HW2.out (g := w.heap.size + 1) (by omega) (bare4 cs)); refine Stop.out ?_)
 unfold Stop
 go_wp2
 exact bodyPost_ret (v := .agg (bare4 cs)) (results_cell_row Tryz.results22 _ _ (w.heap.size + 1) 28 (bare4 cs) (0, 0) _ rfl HP9.out Tryz.underlying28 rfl HI.out.1) rfl ⟨rfl, HB9.out⟩
end Go.Proofs.YtmjjenemokojjaaGreat

namespace Go.Proofs.YtmjjenemokojjaaGreat
open Go.RowKit
set_option maxRecDepth 100000
set_option linter.unusedSimpArgs false
set_option linter.unusedVariables false

def bare5 (cs : Array Value) : Array Value := ((((((cs.setIfInBounds 2 (.string ⟨#[]⟩)).setIfInBounds 10 (.int .i64 0)).setIfInBounds 11 (.int .i64 0)).setIfInBounds 12 (.int .i64 0)).setIfInBounds 7 (.int .i64 0)).setIfInBounds 8 (.int .i64 0))
theorem bare5_size (cs : Array Value) : (bare5 cs).size = cs.size := by unfold bare5; simp
set_option maxHeartbeats 2000000 in
theorem unnamed_5 (cs : Array Value) (w : World) (hs : cs.size = 22) (hk : cs[0]? = some (.int .i64 5)) (h1 : (bare5 cs).all (·.oneCell') = true) : Calls Tryz.prog 22 #[.agg cs] w fun e w1 => e = .returned (.agg (bare5 cs)) ∧ Below w.heap.size w w1 := by
 have hb0 := heap_alloc_new w (.cells cs 28)
 have hb1 := heap_alloc_new (w.alloc (.cells cs 28)) (.cells zeroCmd 28)
 simp only [World.size_alloc] at hb1
 have HA := Lib.hid (heap_on (below_alloc (w.alloc (.cells cs 28)) (.cells zeroCmd 28)) hb0)
 have HZ := Lib.hid hb1
 have HW := Lib.hid (show Below w.heap.size w ((w.alloc (.cells cs 28)).alloc (.cells zeroCmd 28)) from below_more (below_alloc _ _))
 have a0 : ((w.alloc (.cells cs 28)).alloc (.cells zeroCmd 28)).cell? ⟨w.heap.size, 0, none⟩ = some (.int .i64 5) := (cell_of_row _ _ 0 _ _ _ HA.out).trans hk
 clear hb0 hb1
 go_enter Tryz.func22, Tryz.ntmps22
 go_upto_region 17 with fail
 generalize hx : World.alloc (World.alloc w _) _ = wb at HA HZ HW a0 ⊢
 clear hx a0
 obtain ⟨v2, c2⟩ : ∃ v, wb.cell? ⟨w.heap.size, 2, none⟩ = some v := ⟨_, (cell_of_row wb w.heap.size 2 _ _ _ HA.out).trans (Array.getElem?_eq_getElem (i := 2) (by rw [hs]; omega))⟩
 have f2 := frozen_of_row wb w.heap.size 2 _ _ HA.out
 obtain ⟨v10, c10⟩ : ∃ v, wb.cell? ⟨w.heap.size, 10, none⟩ = some v := ⟨_, (cell_of_row wb w.heap.size 10 _ _ _ HA.out).trans (Array.getElem?_eq_getElem (i := 10) (by rw [hs]; omega))⟩
 have f10 := frozen_of_row wb w.heap.size 10 _ _ HA.out
 obtain ⟨v11, c11⟩ : ∃ v, wb.cell? ⟨w.heap.size, 11, none⟩ = some v := ⟨_, (cell_of_row wb w.heap.size 11 _ _ _ HA.out).trans (Array.getElem?_eq_getElem (i := 11) (by rw [hs]; omega))⟩
 have f11 := frozen_of_row wb w.heap.size 11 _ _ HA.out
 obtain ⟨v12, c12⟩ : ∃ v, wb.cell? ⟨w.heap.size, 12, none⟩ = some v := ⟨_, (cell_of_row wb w.heap.size 12 _ _ _ HA.out).trans (Array.getElem?_eq_getElem (i := 12) (by rw [hs]; omega))⟩
 have f12 := frozen_of_row wb w.heap.size 12 _ _ HA.out
 obtain ⟨v7, c7⟩ : ∃ v, wb.cell? ⟨w.heap.size, 7, none⟩ = some v := ⟨_, (cell_of_row wb w.heap.size 7 _ _ _ HA.out).trans (Array.getElem?_eq_getElem (i := 7) (by rw [hs]; omega))⟩
 have f7 := frozen_of_row wb w.heap.size 7 _ _ HA.out
 obtain ⟨v8, c8⟩ : ∃ v, wb.cell? ⟨w.heap.size, 8, none⟩ = some v := ⟨_, (cell_of_row wb w.heap.size 8 _ _ _ HA.out).trans (Array.getElem?_eq_getElem (i := 8) (by rw [hs]; omega))⟩
 have f8 := frozen_of_row wb w.heap.size 8 _ _ HA.out
 have q0 : ((wb.setCell ⟨w.heap.size, 2, none⟩ (.string ⟨#[]⟩))).heap[w.heap.size]? = some (.cells (cs.setIfInBounds 2 (.string ⟨#[]⟩)) 28 (0, 0)) := heap_setCell_same _ w.heap.size 2 _ _ _ HA.out
 have q1 : (((wb.setCell ⟨w.heap.size, 2, none⟩ (.string ⟨#[]⟩)).setCell ⟨w.heap.size, 10, none⟩ (.int .i64 0))).heap[w.heap.size]? = some (.cells ((cs.setIfInBounds 2 (.string ⟨#[]⟩)).setIfInBounds 10 (.int .i64 0)) 28 (0, 0)) := heap_setCell_same _ w.heap.size 10 _ _ _ q0
 have q2 : ((((wb.setCell ⟨w.heap.size, 2, none⟩ (.string ⟨#[]⟩)).setCell ⟨w.heap.size, 10, none⟩ (.int .i64 0)).setCell ⟨w.heap.size, 11, none⟩ (.int .i64 0))).heap[w.heap.size]? = some (.cells (((cs.setIfInBounds 2 (.string ⟨#[]⟩)).setIfInBounds 10 (.int .i64 0)).setIfInBounds 11 (.int .i64 0)) 28 (0, 0)) := heap_setCell_same _ w.heap.size 11 _ _ _ q1
 have q3 : (((((wb.setCell ⟨w.heap.size, 2, none⟩ (.string ⟨#[]⟩)).setCell ⟨w.heap.size, 10, none⟩ (.int .i64 0)).setCell ⟨w.heap.size, 11, none⟩ (.int .i64 0)).setCell ⟨w.heap.size, 12, none⟩ (.int .i64 0))).heap[w.heap.size]? = some (.cells ((((cs.setIfInBounds 2 (.string ⟨#[]⟩)).setIfInBounds 10 (.int .i64 0)).setIfInBounds 11 (.int .i64 0)).setIfInBounds 12 (.int .i64 0)) 28 (0, 0)) := heap_setCell_same _ w.heap.size 12 _ _ _ q2
 have q4 : ((((((wb.setCell ⟨w.heap.size, 2, none⟩ (.string ⟨#[]⟩)).setCell ⟨w.heap.size, 10, none⟩ (.int .i64 0)).setCell ⟨w.heap.size, 11, none⟩ (.int .i64 0)).setCell ⟨w.heap.size, 12, none⟩ (.int .i64 0)).setCell ⟨w.heap.size, 7, none⟩ (.int .i64 0))).heap[w.heap.size]? = some (.cells (((((cs.setIfInBounds 2 (.string ⟨#[]⟩)).setIfInBounds 10 (.int .i64 0)).setIfInBounds 11 (.int .i64 0)).setIfInBounds 12 (.int .i64 0)).setIfInBounds 7 (.int .i64 0)) 28 (0, 0)) := heap_setCell_same _ w.heap.size 7 _ _ _ q3
 have q5 : (((((((wb.setCell ⟨w.heap.size, 2, none⟩ (.string ⟨#[]⟩)).setCell ⟨w.heap.size, 10, none⟩ (.int .i64 0)).setCell ⟨w.heap.size, 11, none⟩ (.int .i64 0)).setCell ⟨w.heap.size, 12, none⟩ (.int .i64 0)).setCell ⟨w.heap.size, 7, none⟩ (.int .i64 0)).setCell ⟨w.heap.size, 8, none⟩ (.int .i64 0))).heap[w.heap.size]? = some (.cells ((((((cs.setIfInBounds 2 (.string ⟨#[]⟩)).setIfInBounds 10 (.int .i64 0)).setIfInBounds 11 (.int .i64 0)).setIfInBounds 12 (.int .i64 0)).setIfInBounds 7 (.int .i64 0)).setIfInBounds 8 (.int .i64 0)) 28 (0, 0)) := heap_setCell_same _ w.heap.size 8 _ _ _ q4
 have HB := Lib.hid (show (((((((wb.setCell ⟨w.heap.size, 2, none⟩ (.string ⟨#[]⟩)).setCell ⟨w.heap.size, 10, none⟩ (.int .i64 0)).setCell ⟨w.heap.size, 11, none⟩ (.int .i64 0)).setCell ⟨w.heap.size, 12, none⟩ (.int .i64 0)).setCell ⟨w.heap.size, 7, none⟩ (.int .i64 0)).setCell ⟨w.heap.size, 8, none⟩ (.int .i64 0))).heap[w.heap.size]? = some (.cells (bare5 cs) 28 (0, 0)) from q5)
 clear q0 q1 q2 q3 q4 q5
 have HZ2 : Hid ((((((((wb.setCell ⟨w.heap.size, 2, none⟩ (.string ⟨#[]⟩)).setCell ⟨w.heap.size, 10, none⟩ (.int .i64 0)).setCell ⟨w.heap.size, 11, none⟩ (.int .i64 0)).setCell ⟨w.heap.size, 12, none⟩ (.int .i64 0)).setCell ⟨w.heap.size, 7, none⟩ (.int .i64 0)).setCell ⟨w.heap.size, 8, none⟩ (.int .i64 0))).heap[w.heap.size + 1]? = some (.cells zeroCmd 28 (0, 0))) := Lib.hid ((heap_setCell_other _ ⟨w.heap.size, 8, none⟩ (w.heap.size + 1) (.int .i64 0) (by simp)).trans ((heap_setCell_other _ ⟨w.heap.size, 7, none⟩ (w.heap.size + 1) (.int .i64 0) (by simp)).trans ((heap_setCell_other _ ⟨w.heap.size, 12, none⟩ (w.heap.size + 1) (.int .i64 0) (by simp)).trans ((heap_setCell_other _ ⟨w.heap.size, 11, none⟩ (w.heap.size + 1) (.int .i64 0) (by simp)).trans ((heap_setCell_other _ ⟨w.heap.size, 10, none⟩ (w.heap.size + 1) (.int .i64 0) (by simp)).trans ((heap_setCell_other _ ⟨w.heap.size, 2, none⟩ (w.heap.size + 1) (.string ⟨#[]⟩) (by simp)).trans HZ.out))))))
 have s0 := Below.setCell HW.out (p := ⟨w.heap.size, 2, none⟩) (Nat.le_refl _) (.string ⟨#[]⟩)
 have s1 := Below.setCell s0 (p := ⟨w.heap.size, 10, none⟩) (Nat.le_refl _) (.int .i64 0)
 have s2 := Below.setCell s1 (p := ⟨w.heap.size, 11, none⟩) (Nat.le_refl _) (.int .i64 0)
 have s3 := Below.setCell s2 (p := ⟨w.heap.size, 12, none⟩) (Nat.le_refl _) (.int .i64 0)
 have s4 := Below.setCell s3 (p := ⟨w.heap.size, 7, none⟩) (Nat.le_refl _) (.int .i64 0)
 have s5 := Below.setCell s4 (p := ⟨w.heap.size, 8, none⟩) (Nat.le_refl _) (.int .i64 0)
 have HW2 := Lib.hid s5
 clear s0 s1 s2 s3 s4 s5
 have hsz : (bare5 cs).size = 22 := (bare5_size cs).trans hs
 have HI := Lib.hid (And.intro (cmd_info hsz) h1)
 have HSZ := Lib.hid hsz
 clear hs hk h1 hsz HA HZ HW
 go_upto_region 22 with fail
 generalize hx : ((((((wb.setCell ⟨w.heap.size, 2, none⟩ (.string ⟨#[]⟩)).setCell ⟨w.heap.size, 10, none⟩ (.int .i64 0)).setCell ⟨w.heap.size, 11, none⟩ (.int .i64 0)).setCell ⟨w.heap.size, 12, none⟩ (.int .i64 0)).setCell ⟨w.heap.size, 7, none⟩ (.int .i64 0)).setCell ⟨w.heap.size, 8, none⟩ (.int .i64 0)) = wc at HB HZ2 HW2 ⊢
 clear hx c2 f2 c10 f10 c11 f11 c12 f12 c7 f7 c8 f8
 go_wp2_with ((with_reducible refine wpList_load_row (o := ⟨some 48, _, _, _, _, _⟩) ?a1 28 (.tmp 1) ?a2 w.heap.size ?a3 28 (bare5 cs) (0, 0) _ HB.out Tryz.underlying28 ?a4 HI.out.1 ?_); (case a1 => rfl); (case a2 => rfl); (case a3 => rfl); (case a4 => rfl); refine Stop.out ?_)
 unfold Stop
 go_wp2_with ((with_reducible refine wpList_store_row (o := ⟨none, _, _, _, _, _⟩) ?b1 28 (.tmp 2) (.tmp 48) ?b2 (w.heap.size + 1) (bare5 cs) ?b3 ?b4 28 zeroCmd HZ2.out HI.out.1 ?b5 HI.out.2 ?_); (case b1 => rfl); (case b2 => rfl); (case b3 => rfl); (case b4 => rfl); (case b5 => exact HSZ.out.symm); have HP9 := Lib.hid (setRow_heap wc (w.heap.size + 1) _ (bare5 cs) _ _ HZ2.out); have HB9 := Lib.hid (below_setRow HW2.out (g := w.heap.size + 1) (by omega) (bare5 cs)); refine Stop.out ?_)
 unfold Stop
 go_wp2
 exact bodyPost_ret (v := .agg (bare5 cs)) (results_cell_row Tryz.results22 _ _ (w.heap.size + 1) 28 (bare5 cs) (0, 0) _ rfl HP9.out Tryz.underlying28 rfl HI.out.1) rfl ⟨rfl, HB9.out⟩
def bare6 (cs : Array Value) : Array Value := (cs.setIfInBounds 2 (.string ⟨#[]⟩))
theorem bare6_size (cs : Array Value) : (bare6 cs).size = cs.size := by unfold bare6; simp
set_option maxHeartbeats 2000000 in
theorem unnamed_6 (cs : Array Value) (w : World) (hs : cs.size = 22) (hk : cs[0]? = some (.int .i64 6)) (h1 : (bare6 cs).all (·.oneCell') = true) : Calls Tryz.prog 22 #[.agg cs] w fun e w1 => e = .returned (.agg (bare6 cs)) ∧ Below w.heap.size w w1 := by
 have hb0 := heap_alloc_new w (.cells cs 28)
 have hb1 := heap_alloc_new (w.alloc (.cells cs 28)) (.cells zeroCmd 28)
 simp only [World.size_alloc] at hb1
 have HA := Lib.hid (heap_on (below_alloc (w.alloc (.cells cs 28)) (.cells zeroCmd 28)) hb0)
 have HZ := Lib.hid hb1
 have HW := Lib.hid (show Below w.heap.size w ((w.alloc (.cells cs 28)).alloc (.cells zeroCmd 28)) from below_more (below_alloc _ _))
 have a0 : ((w.alloc (.cells cs 28)).alloc (.cells zeroCmd 28)).cell? ⟨w.heap.size, 0, none⟩ = some (.int .i64 6) := (cell_of_row _ _ 0 _ _ _ HA.out).trans hk
 clear hb0 hb1
 go_enter Tryz.func22, Tryz.ntmps22
 go_upto_region 18 with fail
 generalize hx : World.alloc (World.alloc w _) _ = wb at HA HZ HW a0 ⊢
 clear hx a0
 obtain ⟨v2, c2⟩ : ∃ v, wb.cell? ⟨w.heap.size, 2, none⟩ = some v := ⟨_, (cell_of_row wb w.heap.size 2 _ _ _ HA.out).trans (Array.getElem?_eq_getElem (i := 2) (by rw [hs]; omega))⟩
 have f2 := frozen_of_row wb w.heap.size 2 _ _ HA.out
 have q0 : ((wb.setCell ⟨w.heap.size, 2, none⟩ (.string ⟨#[]⟩))).heap[w.heap.size]? = some (.cells (cs.setIfInBounds 2 (.string ⟨#[]⟩)) 28 (0, 0)) := heap_setCell_same _ w.heap.size 2 _ _ _ HA.out
 have HB := Lib.hid (show ((wb.setCell ⟨w.heap.size, 2, none⟩ (.string ⟨#[]⟩))).heap[w.heap.size]? = some (.cells (bare6 cs) 28 (0, 0)) from q0)
 clear q0
 have HZ2 : Hid (((wb.setCell ⟨w.heap.size, 2, none⟩ (.string ⟨#[]⟩))).heap[w.heap.size + 1]? = some (.cells zeroCmd 28 (0, 0))) := Lib.hid ((heap_setCell_other _ ⟨w.heap.size, 2, none⟩ (w.heap.size + 1) (.string ⟨#[]⟩) (by simp)).trans HZ.out)
 have s0 := Below.setCell HW.out (p := ⟨w.heap.size, 2, none⟩) (Nat.le_refl _) (.string ⟨#[]⟩)
 have HW2 := Lib.hid s0
 clear s0
 have hsz : (bare6 cs).size = 22 := (bare6_size cs).trans hs
 have HI := Lib.hid (And.intro (cmd_info hsz) h1)
 have HSZ := Lib.hid hsz
 clear hs hk h1 hsz HA HZ HW
 go_upto_region 22 with fail
 generalize hx : (wb.setCell ⟨w.heap.size, 2, none⟩ (.string ⟨#[]⟩)) = wc at HB HZ2 HW2 ⊢
 clear hx c2 f2
 go_wp2_with ((with_reducible refine wpList_load_row (o := ⟨some 48, _, _, _, _, _⟩) ?a1 28 (.tmp 1) ?a2 w.heap.size ?a3 28 (bare6 cs) (0, 0) _ HB.out Tryz.underlying28 ?a4 HI.out.1 ?_); (case a1 => rfl); (case a2 => rfl); (case a3 => rfl); (case a4 => rfl); refine Stop.out ?_)
 unfold Stop
 go_wp2_with ((with_reducible refine wpList_store_row (o := ⟨none, _, _, _, _, _⟩) ?b1 28 (.tmp 2) (.tmp 48) ?b2 (w.heap.size + 1) (bare6 cs) ?b3 ?b4 28 zeroCmd HZ2.out HI.out.1 ?b5 HI.out.2 ?_); (case b1 => rfl); (case b2 => rfl); (case b3 => rfl); (case b4 => rfl); (case b5 => exact HSZ.out.symm); have HP9 := Lib.hid (setRow_heap wc (w.heap.size + 1) _ (bare6 cs) _ _ HZ2.out); have HB9 := Lib.hid (below_setRow HW2.out (g := w.heap.size + 1) (by omega) (bare6 cs)); refine Stop.out ?_)
 unfold Stop
 go_wp2
 exact bodyPost_ret (v := .agg (bare6 cs)) (results_cell_row Tryz.results22 _ _ (w.heap.size + 1) 28 (bare6 cs) (0, 0) _ rfl HP9.out Tryz.underlying28 rfl HI.out.1) rfl ⟨rfl, HB9.out⟩
def bare7 (cs : Array Value) : Array Value := ((((cs.setIfInBounds 7 (.int .i64 0)).setIfInBounds 10 (.int .i64 0)).setIfInBounds 11 (.int .i64 0)).setIfInBounds 12 (.int .i64 0))
theorem bare7_size (cs : Array Value) : (bare7 cs).size = cs.size := by unfold bare7; simp
set_option maxHeartbeats 2000000 in
theorem unnamed_7 (cs : Array Value) (w : World) (hs : cs.size = 22) (hk : cs[0]? = some (.int .i64 7)) (h1 : (bare7 cs).all (·.oneCell') = true) : Calls Tryz.prog 22 #[.agg cs] w fun e w1 => e = .returned (.agg (bare7 cs)) ∧ Below w.heap.size w w1 := by
 have hb0 := heap_alloc_new w (.cells cs 28)
 have hb1 := heap_alloc_new (w.alloc (.cells cs 28)) (.cells zeroCmd 28)
 simp only [World.size_alloc] at hb1
 have HA := Lib.hid (heap_on (below_alloc (w.alloc (.cells cs 28)) (.cells zeroCmd 28)) hb0)
 have HZ := Lib.hid hb1
 have HW := Lib.hid (show Below w.heap.size w ((w.alloc (.cells cs 28)).alloc (.cells zeroCmd 28)) from below_more (below_alloc _ _))
 have a0 : ((w.alloc (.cells cs 28)).alloc (.cells zeroCmd 28)).cell? ⟨w.heap.size, 0, none⟩ = some (.int .i64 7) := (cell_of_row _ _ 0 _ _ _ HA.out).trans hk
 clear hb0 hb1
 go_enter Tryz.func22, Tryz.ntmps22
 go_upto_region 20 with fail
 generalize hx : World.alloc (World.alloc w _) _ = wb at HA HZ HW a0 ⊢
 clear hx a0
 obtain ⟨v7, c7⟩ : ∃ v, wb.cell? ⟨w.heap.size, 7, none⟩ = some v := ⟨_, (cell_of_row wb w.heap.size 7 _ _ _ HA.out).trans (Array.getElem?_eq_getElem (i := 7) (by rw [hs]; omega))⟩
 have f7 := frozen_of_row wb w.heap.size 7 _ _ HA.out
 obtain ⟨v10, c10⟩ : ∃ v, wb.cell? ⟨w.heap.size, 10, none⟩ = some v := ⟨_, (cell_of_row wb w.heap.size 10 _ _ _ HA.out).trans (Array.getElem?_eq_getElem (i := 10) (by rw [hs]; omega))⟩
 have f10 := frozen_of_row wb w.heap.size 10 _ _ HA.out
 obtain ⟨v11, c11⟩ : ∃ v, wb.cell? ⟨w.heap.size, 11, none⟩ = some v := ⟨_, (cell_of_row wb w.heap.size 11 _ _ _ HA.out).trans (Array.getElem?_eq_getElem (i := 11) (by rw [hs]; omega))⟩
 have f11 := frozen_of_row wb w.heap.size 11 _ _ HA.out
 obtain ⟨v12, c12⟩ : ∃ v, wb.cell? ⟨w.heap.size, 12, none⟩ = some v := ⟨_, (cell_of_row wb w.heap.size 12 _ _ _ HA.out).trans (Array.getElem?_eq_getElem (i := 12) (by rw [hs]; omega))⟩
 have f12 := frozen_of_row wb w.heap.size 12 _ _ HA.out
 have q0 : ((wb.setCell ⟨w.heap.size, 7, none⟩ (.int .i64 0))).heap[w.heap.size]? = some (.cells (cs.setIfInBounds 7 (.int .i64 0)) 28 (0, 0)) := heap_setCell_same _ w.heap.size 7 _ _ _ HA.out
 have q1 : (((wb.setCell ⟨w.heap.size, 7, none⟩ (.int .i64 0)).setCell ⟨w.heap.size, 10, none⟩ (.int .i64 0))).heap[w.heap.size]? = some (.cells ((cs.setIfInBounds 7 (.int .i64 0)).setIfInBounds 10 (.int .i64 0)) 28 (0, 0)) := heap_setCell_same _ w.heap.size 10 _ _ _ q0
 have q2 : ((((wb.setCell ⟨w.heap.size, 7, none⟩ (.int .i64 0)).setCell ⟨w.heap.size, 10, none⟩ (.int .i64 0)).setCell ⟨w.heap.size, 11, none⟩ (.int .i64 0))).heap[w.heap.size]? = some (.cells (((cs.setIfInBounds 7 (.int .i64 0)).setIfInBounds 10 (.int .i64 0)).setIfInBounds 11 (.int .i64 0)) 28 (0, 0)) := heap_setCell_same _ w.heap.size 11 _ _ _ q1
 have q3 : (((((wb.setCell ⟨w.heap.size, 7, none⟩ (.int .i64 0)).setCell ⟨w.heap.size, 10, none⟩ (.int .i64 0)).setCell ⟨w.heap.size, 11, none⟩ (.int .i64 0)).setCell ⟨w.heap.size, 12, none⟩ (.int .i64 0))).heap[w.heap.size]? = some (.cells ((((cs.setIfInBounds 7 (.int .i64 0)).setIfInBounds 10 (.int .i64 0)).setIfInBounds 11 (.int .i64 0)).setIfInBounds 12 (.int .i64 0)) 28 (0, 0)) := heap_setCell_same _ w.heap.size 12 _ _ _ q2
 have HB := Lib.hid (show (((((wb.setCell ⟨w.heap.size, 7, none⟩ (.int .i64 0)).setCell ⟨w.heap.size, 10, none⟩ (.int .i64 0)).setCell ⟨w.heap.size, 11, none⟩ (.int .i64 0)).setCell ⟨w.heap.size, 12, none⟩ (.int .i64 0))).heap[w.heap.size]? = some (.cells (bare7 cs) 28 (0, 0)) from q3)
 clear q0 q1 q2 q3
 have HZ2 : Hid ((((((wb.setCell ⟨w.heap.size, 7, none⟩ (.int .i64 0)).setCell ⟨w.heap.size, 10, none⟩ (.int .i64 0)).setCell ⟨w.heap.size, 11, none⟩ (.int .i64 0)).setCell ⟨w.heap.size, 12, none⟩ (.int .i64 0))).heap[w.heap.size + 1]? = some (.cells zeroCmd 28 (0, 0))) := Lib.hid ((heap_setCell_other _ ⟨w.heap.size, 12, none⟩ (w.heap.size + 1) (.int .i64 0) (by simp)).trans ((heap_setCell_other _ ⟨w.heap.size, 11, none⟩ (w.heap.size + 1) (.int .i64 0) (by simp)).trans ((heap_setCell_other _ ⟨w.heap.size, 10, none⟩ (w.heap.size + 1) (.int .i64 0) (by simp)).trans ((heap_setCell_other _ ⟨w.heap.size, 7, none⟩ (w.heap.size + 1) (.int .i64 0) (by simp)).trans HZ.out))))
 have s0 := Below.setCell HW.out (p := ⟨w.heap.size, 7, none⟩) (Nat.le_refl _) (.int .i64 0)
 have s1 := Below.setCell s0 (p := ⟨w.heap.size, 10, none⟩) (Nat.le_refl _) (.int .i64 0)
 have s2 := Below.setCell s1 (p := ⟨w.heap.size, 11, none⟩) (Nat.le_refl _) (.int .i64 0)
 have s3 := Below.setCell s2 (p := ⟨w.heap.size, 12, none⟩) (Nat.le_refl _) (.int .i64 0)
 have HW2 := Lib.hid s3
 clear s0 s1 s2 s3
 have hsz : (bare7 cs).size = 22 := (bare7_size cs).trans hs
 have HI := Lib.hid (And.intro (cmd_info hsz) h1)
 have HSZ := Lib.hid hsz
 clear hs hk h1 hsz HA HZ HW
 go_upto_region 22 with fail
 generalize hx : ((((wb.setCell ⟨w.heap.size, 7, none⟩ (.int .i64 0)).setCell ⟨w.heap.size, 10, none⟩ (.int .i64 0)).setCell ⟨w.heap.size, 11, none⟩ (.int .i64 0)).setCell ⟨w.heap.size, 12, none⟩ (.int .i64 0)) = wc at HB HZ2 HW2 ⊢
 clear hx c7 f7 c10 f10 c11 f11 c12 f12
 go_wp2_with ((with_reducible refine wpList_load_row (o := ⟨some 48, _, _, _, _, _⟩) ?a1 28 (.tmp 1) ?a2 w.heap.size ?a3 28 (bare7 cs) (0, 0) _ HB.out Tryz.underlying28 ?a4 HI.out.1 ?_); (case a1 => rfl); (case a2 => rfl); (case a3 => rfl); (case a4 => rfl); refine Stop.out ?_)
 unfold Stop
 go_wp2_with ((with_reducible refine wpList_store_row (o := ⟨none, _, _, _, _, _⟩) ?b1 28 (.tmp 2) (.tmp 48) ?b2 (w.heap.size + 1) (bare7 cs) ?b3 ?b4 28 zeroCmd HZ2.out HI.out.1 ?b5 HI.out.2 ?_); (case b1 => rfl); (case b2 => rfl); (case b3 => rfl); (case b4 => rfl); (case b5 => exact HSZ.out.symm); have HP9 := Lib.hid (setRow_heap wc (w.heap.size + 1) _ (bare7 cs) _ _ HZ2.out); have HB9 := Lib.hid (below_setRow HW2.out (g := w.heap.size + 1) (by omega) (bare7 cs)); refine Stop.out ?_)
 unfold Stop
 go_wp2
 exact bodyPost_ret (v := .agg (bare7 cs)) (results_cell_row Tryz.results22 _ _ (w.heap.size + 1) 28 (bare7 cs) (0, 0) _ rfl HP9.out Tryz.underlying28 rfl HI.out.1) rfl ⟨rfl, HB9.out⟩
end Go.Proofs.YtmjjenemokojjaaGreat

namespace Go.Proofs.YtmjjenemokojjaaGreat
open Go.RowKit
set_option maxRecDepth 100000
set_option linter.unusedSimpArgs false
set_option linter.unusedVariables false

set_option maxHeartbeats 2000000 in
theorem unnamed_9 (cs : Array Value) (w : World) (hs : cs.size = 22) (hk : cs[0]? = some (.int .i64 9)) (h1 : (bare11 cs).all (·.oneCell') = true) : Calls Tryz.prog 22 #[.agg cs] w fun e w1 => e = .returned (.agg (bare11 cs)) ∧ Below w.heap.size w w1 := by
 have hb0 := heap_alloc_new w (.cells cs 28)
 have hb1 := heap_alloc_new (w.alloc (.cells cs 28)) (.cells zeroCmd 28)
 simp only [World.size_alloc] at hb1
 have HA := Lib.hid (heap_on (below_alloc (w.alloc (.cells cs 28)) (.cells zeroCmd 28)) hb0)
 have HZ := Lib.hid hb1
 have HW := Lib.hid (show Below w.heap.size w ((w.alloc (.cells cs 28)).alloc (.cells zeroCmd 28)) from below_more (below_alloc _ _))
 have a0 : ((w.alloc (.cells cs 28)).alloc (.cells zeroCmd 28)).cell? ⟨w.heap.size, 0, none⟩ = some (.int .i64 9) := (cell_of_row _ _ 0 _ _ _ HA.out).trans hk
 clear hb0 hb1
 go_enter Tryz.func22, Tryz.ntmps22
 go_upto_region 21 with fail
 generalize hx : World.alloc (World.alloc w _) _ = wb at HA HZ HW a0 ⊢
 clear hx a0
 obtain ⟨v10, c10⟩ : ∃ v, wb.cell? ⟨w.heap.size, 10, none⟩ = some v := ⟨_, (cell_of_row wb w.heap.size 10 _ _ _ HA.out).trans (Array.getElem?_eq_getElem (i := 10) (by rw [hs]; omega))⟩
 have f10 := frozen_of_row wb w.heap.size 10 _ _ HA.out
 obtain ⟨v11, c11⟩ : ∃ v, wb.cell? ⟨w.heap.size, 11, none⟩ = some v := ⟨_, (cell_of_row wb w.heap.size 11 _ _ _ HA.out).trans (Array.getElem?_eq_getElem (i := 11) (by rw [hs]; omega))⟩
 have f11 := frozen_of_row wb w.heap.size 11 _ _ HA.out
 obtain ⟨v12, c12⟩ : ∃ v, wb.cell? ⟨w.heap.size, 12, none⟩ = some v := ⟨_, (cell_of_row wb w.heap.size 12 _ _ _ HA.out).trans (Array.getElem?_eq_getElem (i := 12) (by rw [hs]; omega))⟩
 have f12 := frozen_of_row wb w.heap.size 12 _ _ HA.out
 have q0 : ((wb.setCell ⟨w.heap.size, 10, none⟩ (.int .i64 0))).heap[w.heap.size]? = some (.cells (cs.setIfInBounds 10 (.int .i64 0)) 28 (0, 0)) := heap_setCell_same _ w.heap.size 10 _ _ _ HA.out
 have q1 : (((wb.setCell ⟨w.heap.size, 10, none⟩ (.int .i64 0)).setCell ⟨w.heap.size, 11, none⟩ (.int .i64 0))).heap[w.heap.size]? = some (.cells ((cs.setIfInBounds 10 (.int .i64 0)).setIfInBounds 11 (.int .i64 0)) 28 (0, 0)) := heap_setCell_same _ w.heap.size 11 _ _ _ q0
 have q2 : ((((wb.setCell ⟨w.heap.size, 10, none⟩ (.int .i64 0)).setCell ⟨w.heap.size, 11, none⟩ (.int .i64 0)).setCell ⟨w.heap.size, 12, none⟩ (.int .i64 0))).heap[w.heap.size]? = some (.cells (((cs.setIfInBounds 10 (.int .i64 0)).setIfInBounds 11 (.int .i64 0)).setIfInBounds 12 (.int .i64 0)) 28 (0, 0)) := heap_setCell_same _ w.heap.size 12 _ _ _ q1
 have HB := Lib.hid (show ((((wb.setCell ⟨w.heap.size, 10, none⟩ (.int .i64 0)).setCell ⟨w.heap.size, 11, none⟩ (.int .i64 0)).setCell ⟨w.heap.size, 12, none⟩ (.int .i64 0))).heap[w.heap.size]? = some (.cells (bare11 cs) 28 (0, 0)) from q2)
 clear q0 q1 q2
 have HZ2 : Hid (((((wb.setCell ⟨w.heap.size, 10, none⟩ (.int .i64 0)).setCell ⟨w.heap.size, 11, none⟩ (.int .i64 0)).setCell ⟨w.heap.size, 12, none⟩ (.int .i64 0))).heap[w.heap.size + 1]? = some (.cells zeroCmd 28 (0, 0))) := Lib.hid ((heap_setCell_other _ ⟨w.heap.size, 12, none⟩ (w.heap.size + 1) (.int .i64 0) (by simp)).trans ((heap_setCell_other _ ⟨w.heap.size, 11, none⟩ (w.heap.size + 1) (.int .i64 0) (by simp)).trans ((heap_setCell_other _ ⟨w.heap.size, 10, none⟩ (w.heap.size + 1) (.int .i64 0) (by simp)).trans HZ.out)))
 have s0 := Below.setCell HW.out (p := ⟨w.heap.size, 10, none⟩) (Nat.le_refl _) (.int .i64 0)
 have s1 := Below.setCell s0 (p := ⟨w.heap.size, 11, none⟩) (Nat.le_refl _) (.int .i64 0)
 have s2 := Below.setCell s1 (p := ⟨w.heap.size, 12, none⟩) (Nat.le_refl _) (.int .i64 0)
 have HW2 := Lib.hid s2
 clear s0 s1 s2
 have hsz : (bare11 cs).size = 22 := (bare11_size cs).trans hs
 have HI := Lib.hid (And.intro (cmd_info hsz) h1)
 have HSZ := Lib.hid hsz
 clear hs hk h1 hsz HA HZ HW
 go_upto_region 22 with fail
 generalize hx : (((wb.setCell ⟨w.heap.size, 10, none⟩ (.int .i64 0)).setCell ⟨w.heap.size, 11, none⟩ (.int .i64 0)).setCell ⟨w.heap.size, 12, none⟩ (.int .i64 0)) = wc at HB HZ2 HW2 ⊢
 clear hx c10 f10 c11 f11 c12 f12
 go_wp2_with ((with_reducible refine wpList_load_row (o := ⟨some 48, _, _, _, _, _⟩) ?a1 28 (.tmp 1) ?a2 w.heap.size ?a3 28 (bare11 cs) (0, 0) _ HB.out Tryz.underlying28 ?a4 HI.out.1 ?_); (case a1 => rfl); (case a2 => rfl); (case a3 => rfl); (case a4 => rfl); refine Stop.out ?_)
 unfold Stop
 go_wp2_with ((with_reducible refine wpList_store_row (o := ⟨none, _, _, _, _, _⟩) ?b1 28 (.tmp 2) (.tmp 48) ?b2 (w.heap.size + 1) (bare11 cs) ?b3 ?b4 28 zeroCmd HZ2.out HI.out.1 ?b5 HI.out.2 ?_); (case b1 => rfl); (case b2 => rfl); (case b3 => rfl); (case b4 => rfl); (case b5 => exact HSZ.out.symm); have HP9 := Lib.hid (setRow_heap wc (w.heap.size + 1) _ (bare11 cs) _ _ HZ2.out); have HB9 := Lib.hid (below_setRow HW2.out (g := w.heap.size + 1) (by omega) (bare11 cs)); refine Stop.out ?_)
 unfold Stop
 go_wp2
 exact bodyPost_ret (v := .agg (bare11 cs)) (results_cell_row Tryz.results22 _ _ (w.heap.size + 1) 28 (bare11 cs) (0, 0) _ rfl HP9.out Tryz.underlying28 rfl HI.out.1) rfl ⟨rfl, HB9.out⟩
set_option maxHeartbeats 2000000 in
theorem unnamed_10 (cs : Array Value) (w : World) (hs : cs.size = 22) (hk : cs[0]? = some (.int .i64 10)) (h1 : (bare11 cs).all (·.oneCell') = true) : Calls Tryz.prog 22 #[.agg cs] w fun e w1 => e = .returned (.agg (bare11 cs)) ∧ Below w.heap.size w w1 := by
 have hb0 := heap_alloc_new w (.cells cs 28)
 have hb1 := heap_alloc_new (w.alloc (.cells cs 28)) (.cells zeroCmd 28)
 simp only [World.size_alloc] at hb1
 have HA := Lib.hid (heap_on (below_alloc (w.alloc (.cells cs 28)) (.cells zeroCmd 28)) hb0)
 have HZ := Lib.hid hb1
 have HW := Lib.hid (show Below w.heap.size w ((w.alloc (.cells cs 28)).alloc (.cells zeroCmd 28)) from below_more (below_alloc _ _))
 have a0 : ((w.alloc (.cells cs 28)).alloc (.cells zeroCmd 28)).cell? ⟨w.heap.size, 0, none⟩ = some (.int .i64 10) := (cell_of_row _ _ 0 _ _ _ HA.out).trans hk
 clear hb0 hb1
 go_enter Tryz.func22, Tryz.ntmps22
 go_upto_region 21 with fail
 generalize hx : World.alloc (World.alloc w _) _ = wb at HA HZ HW a0 ⊢
 clear hx a0
 obtain ⟨v10, c10⟩ : ∃ v, wb.cell? ⟨w.heap.size, 10, none⟩ = some v := ⟨_, (cell_of_row wb w.heap.size 10 _ _ _ HA.out).trans (Array.getElem?_eq_getElem (i := 10) (by rw [hs]; omega))⟩
 have f10 := frozen_of_row wb w.heap.size 10 _ _ HA.out
 obtain ⟨v11, c11⟩ : ∃ v, wb.cell? ⟨w.heap.size, 11, none⟩ = some v := ⟨_, (cell_of_row wb w.heap.size 11 _ _ _ HA.out).trans (Array.getElem?_eq_getElem (i := 11) (by rw [hs]; omega))⟩
 have f11 := frozen_of_row wb w.heap.size 11 _ _ HA.out
 obtain ⟨v12, c12⟩ : ∃ v, wb.cell? ⟨w.heap.size, 12, none⟩ = some v := ⟨_, (cell_of_row wb w.heap.size 12 _ _ _ HA.out).trans (Array.getElem?_eq_getElem (i := 12) (by rw [hs]; omega))⟩
 have f12 := frozen_of_row wb w.heap.size 12 _ _ HA.out
 have q0 : ((wb.setCell ⟨w.heap.size, 10, none⟩ (.int .i64 0))).heap[w.heap.size]? = some (.cells (cs.setIfInBounds 10 (.int .i64 0)) 28 (0, 0)) := heap_setCell_same _ w.heap.size 10 _ _ _ HA.out
 have q1 : (((wb.setCell ⟨w.heap.size, 10, none⟩ (.int .i64 0)).setCell ⟨w.heap.size, 11, none⟩ (.int .i64 0))).heap[w.heap.size]? = some (.cells ((cs.setIfInBounds 10 (.int .i64 0)).setIfInBounds 11 (.int .i64 0)) 28 (0, 0)) := heap_setCell_same _ w.heap.size 11 _ _ _ q0
 have q2 : ((((wb.setCell ⟨w.heap.size, 10, none⟩ (.int .i64 0)).setCell ⟨w.heap.size, 11, none⟩ (.int .i64 0)).setCell ⟨w.heap.size, 12, none⟩ (.int .i64 0))).heap[w.heap.size]? = some (.cells (((cs.setIfInBounds 10 (.int .i64 0)).setIfInBounds 11 (.int .i64 0)).setIfInBounds 12 (.int .i64 0)) 28 (0, 0)) := heap_setCell_same _ w.heap.size 12 _ _ _ q1
 have HB := Lib.hid (show ((((wb.setCell ⟨w.heap.size, 10, none⟩ (.int .i64 0)).setCell ⟨w.heap.size, 11, none⟩ (.int .i64 0)).setCell ⟨w.heap.size, 12, none⟩ (.int .i64 0))).heap[w.heap.size]? = some (.cells (bare11 cs) 28 (0, 0)) from q2)
 clear q0 q1 q2
 have HZ2 : Hid (((((wb.setCell ⟨w.heap.size, 10, none⟩ (.int .i64 0)).setCell ⟨w.heap.size, 11, none⟩ (.int .i64 0)).setCell ⟨w.heap.size, 12, none⟩ (.int .i64 0))).heap[w.heap.size + 1]? = some (.cells zeroCmd 28 (0, 0))) := Lib.hid ((heap_setCell_other _ ⟨w.heap.size, 12, none⟩ (w.heap.size + 1) (.int .i64 0) (by simp)).trans ((heap_setCell_other _ ⟨w.heap.size, 11, none⟩ (w.heap.size + 1) (.int .i64 0) (by simp)).trans ((heap_setCell_other _ ⟨w.heap.size, 10, none⟩ (w.heap.size + 1) (.int .i64 0) (by simp)).trans HZ.out)))
 have s0 := Below.setCell HW.out (p := ⟨w.heap.size, 10, none⟩) (Nat.le_refl _) (.int .i64 0)
 have s1 := Below.setCell s0 (p := ⟨w.heap.size, 11, none⟩) (Nat.le_refl _) (.int .i64 0)
 have s2 := Below.setCell s1 (p := ⟨w.heap.size, 12, none⟩) (Nat.le_refl _) (.int .i64 0)
 have HW2 := Lib.hid s2
 clear s0 s1 s2
 have hsz : (bare11 cs).size = 22 := (bare11_size cs).trans hs
 have HI := Lib.hid (And.intro (cmd_info hsz) h1)
 have HSZ := Lib.hid hsz
 clear hs hk h1 hsz HA HZ HW
 go_upto_region 22 with fail
 generalize hx : (((wb.setCell ⟨w.heap.size, 10, none⟩ (.int .i64 0)).setCell ⟨w.heap.size, 11, none⟩ (.int .i64 0)).setCell ⟨w.heap.size, 12, none⟩ (.int .i64 0)) = wc at HB HZ2 HW2 ⊢
 clear hx c10 f10 c11 f11 c12 f12
 go_wp2_with ((with_reducible refine wpList_load_row (o := ⟨some 48, _, _, _, _, _⟩) ?a1 28 (.tmp 1) ?a2 w.heap.size ?a3 28 (bare11 cs) (0, 0) _ HB.out Tryz.underlying28 ?a4 HI.out.1 ?_); (case a1 => rfl); (case a2 => rfl); (case a3 => rfl); (case a4 => rfl); refine Stop.out ?_)
 unfold Stop
 go_wp2_with ((with_reducible refine wpList_store_row (o := ⟨none, _, _, _, _, _⟩) ?b1 28 (.tmp 2) (.tmp 48) ?b2 (w.heap.size + 1) (bare11 cs) ?b3 ?b4 28 zeroCmd HZ2.out HI.out.1 ?b5 HI.out.2 ?_); (case b1 => rfl); (case b2 => rfl); (case b3 => rfl); (case b4 => rfl); (case b5 => exact HSZ.out.symm); have HP9 := Lib.hid (setRow_heap wc (w.heap.size + 1) _ (bare11 cs) _ _ HZ2.out); have HB9 := Lib.hid (below_setRow HW2.out (g := w.heap.size + 1) (by omega) (bare11 cs)); refine Stop.out ?_)
 unfold Stop
 go_wp2
 exact bodyPost_ret (v := .agg (bare11 cs)) (results_cell_row Tryz.results22 _ _ (w.heap.size + 1) 28 (bare11 cs) (0, 0) _ rfl HP9.out Tryz.underlying28 rfl HI.out.1) rfl ⟨rfl, HB9.out⟩
set_option maxHeartbeats 2000000 in
theorem unnamed_O (cs : Array Value) (k : Int) (w : World) (hs : cs.size = 22) (hk : cs[0]? = some (.int .i64 k)) (hn : k < 1 ∨ 11 < k) (h1 : cs.all (·.oneCell') = true) : Calls Tryz.prog 22 #[.agg cs] w fun e w1 => e = .returned (.agg cs) ∧ Below w.heap.size w w1 := by
 have hb0 := heap_alloc_new w (.cells cs 28)
 have hb1 := heap_alloc_new (w.alloc (.cells cs 28)) (.cells zeroCmd 28)
 simp only [World.size_alloc] at hb1
 have HA := Lib.hid (heap_on (below_alloc (w.alloc (.cells cs 28)) (.cells zeroCmd 28)) hb0)
 have HZ := Lib.hid hb1
 have HW := Lib.hid (show Below w.heap.size w ((w.alloc (.cells cs 28)).alloc (.cells zeroCmd 28)) from below_more (below_alloc _ _))
 have a0 : ((w.alloc (.cells cs 28)).alloc (.cells zeroCmd 28)).cell? ⟨w.heap.size, 0, none⟩ = some (.int .i64 k) := (cell_of_row _ _ 0 _ _ _ HA.out).trans hk
 clear hb0 hb1
 have e1 : (k == 1) = false := beq_false_of_ne (by omega)
 have e2 : (k == 2) = false := beq_false_of_ne (by omega)
 have e3 : (k == 3) = false := beq_false_of_ne (by omega)
 have e4 : (k == 4) = false := beq_false_of_ne (by omega)
 have e5 : (k == 5) = false := beq_false_of_ne (by omega)
 have e6 : (k == 6) = false := beq_false_of_ne (by omega)
 have e7 : (k == 7) = false := beq_false_of_ne (by omega)
 have e8 : (k == 8) = false := beq_false_of_ne (by omega)
 have e9 : (k == 9) = false := beq_false_of_ne (by omega)
 have e10 : (k == 10) = false := beq_false_of_ne (by omega)
 have e11 : (k == 11) = false := beq_false_of_ne (by omega)
 clear hn
 go_enter Tryz.func22, Tryz.ntmps22
 have hsz : cs.size = 22 := hs
 have HI := Lib.hid (And.intro (cmd_info hsz) h1)
 have HSZ := Lib.hid hsz
 clear hs hk h1 hsz
 go_upto_region 22 with fail
 generalize hx : World.alloc (World.alloc w _) _ = wc at HA HZ HW a0 ⊢
 clear hx a0 e1 e2 e3 e4 e5 e6 e7 e8 e9 e10 e11
 have HB := HA
 have HZ2 := HZ
 have HW2 := HW
 go_wp2_with ((with_reducible refine wpList_load_row (o := ⟨some 48, _, _, _, _, _⟩) ?a1 28 (.tmp 1) ?a2 w.heap.size ?a3 28 cs (0, 0) _ HB.out Tryz.underlying28 ?a4 HI.out.1 ?_); (case a1 => rfl); (case a2 => rfl); (case a3 => rfl); (case a4 => rfl); refine Stop.out ?_)
 unfold Stop
 go_wp2_with ((with_reducible refine wpList_store_row (o := ⟨none, _, _, _, _, _⟩) ?b1 28 (.tmp 2) (.tmp 48) ?b2 (w.heap.size + 1) cs ?b3 ?b4 28 zeroCmd HZ2.out HI.out.1 ?b5 HI.out.2 ?_); (case b1 => rfl); (case b2 => rfl); (case b3 => rfl); (case b4 => rfl); (case b5 => exact HSZ.out.symm); have HP9 := Lib.hid (setRow_heap wc (w.heap.size + 1) _ cs _ _ HZ2.out); have HB9 := Lib.hid (below_setRow HW2.out (g := w.heap.size + 1) (by omega) cs); refine Stop.out ?_)
 unfold Stop
 go_wp2
 exact bodyPost_ret (v := .agg cs) (results_cell_row Tryz.results22 _ _ (w.heap.size + 1) 28 cs (0, 0) _ rfl HP9.out Tryz.underlying28 rfl HI.out.1) rfl ⟨rfl, HB9.out⟩
end Go.Proofs.YtmjjenemokojjaaGreat
