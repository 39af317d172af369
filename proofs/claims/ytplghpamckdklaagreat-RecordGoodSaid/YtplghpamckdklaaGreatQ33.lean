/- Commands without the fields that their kind names: the program's, the other kinds. -/
import Derived.Test.YtplghpamckdklaaGreatQ9
import Derived.WalkMore
namespace Go.Proofs.YtplghpamckdklaaGreat
open Go.RowKit
set_option maxRecDepth 100000
set_option linter.unusedSimpArgs false
set_option linter.unusedVariables false

def bare1 (cs : Array Value) : Array Value := (((cs.setIfInBounds 1 (.string ⟨#[]⟩)).setIfInBounds 9 (.int .i64 0)).setIfInBounds 5 (.int .i64 0))
theorem bare1_size (cs : Array Value) : (bare1 cs).size = cs.size := by unfold bare1; simp
set_option maxHeartbeats 2000000 in
theorem unnamed_1 (cs : Array Value) (w : World) (hs : cs.size = 22) (hk : cs[0]? = some (.int .i64 1)) (h1 : (bare1 cs).all (·.oneCell') = true) : Calls Tryz.prog 22 #[.agg cs] w fun e w1 => e = .returned (.agg (bare1 cs)) ∧ Below w.heap.size w w1 := by
  have hb0 := heap_alloc_new w (.cells cs 28)
  have hb1 := heap_alloc_new (w.alloc (.cells cs 28)) (.cells zeroCmd 28)
  simp only [World.size_alloc] at hb1
  have HA := Lib.hid (heap_on (below_alloc (w.alloc (.cells cs 28)) (.cells zeroCmd 28)) hb0)
  have HZ := Lib.hid hb1
  have HW := Lib.hid (show Below w.heap.size w ((w.alloc (.cells cs 28)).alloc (.cells zeroCmd 28)) from below_more (below_alloc _ _))
  have a0 : ((w.alloc (.cells cs 28)).alloc (.cells zeroCmd 28)).cell? ⟨w.heap.size, 0, none⟩ = some (.int .i64 1) := (cell_of_row _ _ 0 _ _ _ HA.out).trans hk
  unfold zeroCmd at a0 HA HZ HW
  clear hb0 hb1
  go_enter Tryz.func22, Tryz.ntmps22
  go_upto_region 13 with fail
  generalize hx : World.alloc (World.alloc w _) _ = wb at HA HZ HW a0 ⊢
  clear hx a0
  obtain ⟨v1, c1⟩ : ∃ v, wb.cell? ⟨w.heap.size, 1, none⟩ = some v := ⟨_, (cell_of_row wb w.heap.size 1 _ _ _ HA.out).trans (Array.getElem?_eq_getElem (i := 1) (by rw [hs]; omega))⟩
  have f1 := frozen_of_row wb w.heap.size 1 _ _ HA.out
  obtain ⟨v9, c9⟩ : ∃ v, wb.cell? ⟨w.heap.size, 9, none⟩ = some v := ⟨_, (cell_of_row wb w.heap.size 9 _ _ _ HA.out).trans (Array.getElem?_eq_getElem (i := 9) (by rw [hs]; omega))⟩
  have f9 := frozen_of_row wb w.heap.size 9 _ _ HA.out
  obtain ⟨v5, c5⟩ : ∃ v, wb.cell? ⟨w.heap.size, 5, none⟩ = some v := ⟨_, (cell_of_row wb w.heap.size 5 _ _ _ HA.out).trans (Array.getElem?_eq_getElem (i := 5) (by rw [hs]; omega))⟩
  have f5 := frozen_of_row wb w.heap.size 5 _ _ HA.out
  have q0 : ((wb.setCell ⟨w.heap.size, 1, none⟩ (.string ⟨#[]⟩))).heap[w.heap.size]? = some (.cells (cs.setIfInBounds 1 (.string ⟨#[]⟩)) 28 (0, 0)) := heap_setCell_same _ w.heap.size 1 _ _ _ HA.out
  have q1 : (((wb.setCell ⟨w.heap.size, 1, none⟩ (.string ⟨#[]⟩)).setCell ⟨w.heap.size, 9, none⟩ (.int .i64 0))).heap[w.heap.size]? = some (.cells ((cs.setIfInBounds 1 (.string ⟨#[]⟩)).setIfInBounds 9 (.int .i64 0)) 28 (0, 0)) := heap_setCell_same _ w.heap.size 9 _ _ _ q0
  have q2 : ((((wb.setCell ⟨w.heap.size, 1, none⟩ (.string ⟨#[]⟩)).setCell ⟨w.heap.size, 9, none⟩ (.int .i64 0)).setCell ⟨w.heap.size, 5, none⟩ (.int .i64 0))).heap[w.heap.size]? = some (.cells (((cs.setIfInBounds 1 (.string ⟨#[]⟩)).setIfInBounds 9 (.int .i64 0)).setIfInBounds 5 (.int .i64 0)) 28 (0, 0)) := heap_setCell_same _ w.heap.size 5 _ _ _ q1
  have HB := Lib.hid (show ((((wb.setCell ⟨w.heap.size, 1, none⟩ (.string ⟨#[]⟩)).setCell ⟨w.heap.size, 9, none⟩ (.int .i64 0)).setCell ⟨w.heap.size, 5, none⟩ (.int .i64 0))).heap[w.heap.size]? = some (.cells (bare1 cs) 28 (0, 0)) from q2)
  clear q0 q1 q2
  have HZ2 : Hid (((((wb.setCell ⟨w.heap.size, 1, none⟩ (.string ⟨#[]⟩)).setCell ⟨w.heap.size, 9, none⟩ (.int .i64 0)).setCell ⟨w.heap.size, 5, none⟩ (.int .i64 0))).heap[w.heap.size + 1]? = some (.cells #[.int .i64 0, .string ⟨#[]⟩, .string ⟨#[]⟩, .int .i64 0, .int .i64 0, .int .i64 0, .int .i64 0, .int .i64 0, .int .i64 0, .int .i64 0, .int .i64 0, .int .i64 0, .int .i64 0, .string ⟨#[]⟩, .bool false, .bool false, .string ⟨#[]⟩, .int .i64 0, .string ⟨#[]⟩, .string ⟨#[]⟩, .string ⟨#[]⟩, .slice none 0 0] 28 (0, 0))) := Lib.hid ((heap_setCell_other _ ⟨w.heap.size, 5, none⟩ (w.heap.size + 1) (.int .i64 0) (by simp)).trans ((heap_setCell_other _ ⟨w.heap.size, 9, none⟩ (w.heap.size + 1) (.int .i64 0) (by simp)).trans ((heap_setCell_other _ ⟨w.heap.size, 1, none⟩ (w.heap.size + 1) (.string ⟨#[]⟩) (by simp)).trans HZ.out)))
  have s0 := Below.setCell HW.out (p := ⟨w.heap.size, 1, none⟩) (Nat.le_refl _) (.string ⟨#[]⟩)
  have s1 := Below.setCell s0 (p := ⟨w.heap.size, 9, none⟩) (Nat.le_refl _) (.int .i64 0)
  have s2 := Below.setCell s1 (p := ⟨w.heap.size, 5, none⟩) (Nat.le_refl _) (.int .i64 0)
  have HW2 := Lib.hid s2
  clear s0 s1 s2
  have hsz : (bare1 cs).size = 22 := (bare1_size cs).trans hs
  have HI := Lib.hid (And.intro (cmd_info hsz) h1)
  have HSZ := Lib.hid hsz
  clear hs hk h1 hsz HA HZ HW
  go_upto_region 22 with fail
  generalize hx : (((wb.setCell ⟨w.heap.size, 1, none⟩ (.string ⟨#[]⟩)).setCell ⟨w.heap.size, 9, none⟩ (.int .i64 0)).setCell ⟨w.heap.size, 5, none⟩ (.int .i64 0)) = wc at HB HZ2 HW2 ⊢
  clear hx c1 f1 c9 f9 c5 f5
  go_wp2_with ((with_reducible refine wpList_load_row (o := ⟨some 48, _, _, _, _, _⟩) ?a1 28 (.tmp 1) ?a2 w.heap.size ?a3 28 (bare1 cs) (0, 0) _ HB.out Tryz.underlying28 ?a4 HI.out.1 ?_); (case a1 => rfl); (case a2 => rfl); (case a3 => rfl); (case a4 => rfl); refine Stop.out ?_)
  unfold Stop
  go_wp2_with ((with_reducible refine wpList_store_row (o := ⟨none, _, _, _, _, _⟩) ?b1 28 (.tmp 2) (.tmp 48) ?b2 (w.heap.size + 1) (bare1 cs) ?b3 ?b4 28 #[.int .i64 0, .string ⟨#[]⟩, .string ⟨#[]⟩, .int .i64 0, .int .i64 0, .int .i64 0, .int .i64 0, .int .i64 0, .int .i64 0, .int .i64 0, .int .i64 0, .int .i64 0, .int .i64 0, .string ⟨#[]⟩, .bool false, .bool false, .string ⟨#[]⟩, .int .i64 0, .string ⟨#[]⟩, .string ⟨#[]⟩, .string ⟨#[]⟩, .slice none 0 0] HZ2.out HI.out.1 ?b5 HI.out.2 ?_); (case b1 => rfl); (case b2 => rfl); (case b3 => rfl); (case b4 => rfl); (case b5 => exact HSZ.out.symm); have HP9 := Lib.hid (setRow_heap wc (w.heap.size + 1) _ (bare1 cs) _ _ HZ2.out); have HB9 := Lib.hid (below_setRow HW2.out (g := w.heap.size + 1) (by omega) (bare1 cs)); refine Stop.out ?_)
  unfold Stop
  go_wp2
  exact bodyPost_ret (v := .agg (bare1 cs)) (results_cell_row Tryz.results22 _ _ (w.heap.size + 1) 28 (bare1 cs) (0, 0) _ rfl HP9.out Tryz.underlying28 rfl HI.out.1) rfl ⟨rfl, HB9.out⟩
def bare2 (cs : Array Value) : Array Value := (((((cs.setIfInBounds 1 (.string ⟨#[]⟩)).setIfInBounds 3 (.int .i64 0)).setIfInBounds 4 (.int .i64 0)).setIfInBounds 5 (.int .i64 0)).setIfInBounds 6 (.int .i64 0))
theorem bare2_size (cs : Array Value) : (bare2 cs).size = cs.size := by unfold bare2; simp
set_option maxHeartbeats 2000000 in
theorem unnamed_2 (cs : Array Value) (w : World) (hs : cs.size = 22) (hk : cs[0]? = some (.int .i64 2)) (h1 : (bare2 cs).all (·.oneCell') = true) : Calls Tryz.prog 22 #[.agg cs] w fun e w1 => e = .returned (.agg (bare2 cs)) ∧ Below w.heap.size w w1 := by
  have hb0 := heap_alloc_new w (.cells cs 28)
  have hb1 := heap_alloc_new (w.alloc (.cells cs 28)) (.cells zeroCmd 28)
  simp only [World.size_alloc] at hb1
  have HA := Lib.hid (heap_on (below_alloc (w.alloc (.cells cs 28)) (.cells zeroCmd 28)) hb0)
  have HZ := Lib.hid hb1
  have HW := Lib.hid (show Below w.heap.size w ((w.alloc (.cells cs 28)).alloc (.cells zeroCmd 28)) from below_more (below_alloc _ _))
  have a0 : ((w.alloc (.cells cs 28)).alloc (.cells zeroCmd 28)).cell? ⟨w.heap.size, 0, none⟩ = some (.int .i64 2) := (cell_of_row _ _ 0 _ _ _ HA.out).trans hk
  unfold zeroCmd at a0 HA HZ HW
  clear hb0 hb1
  go_enter Tryz.func22, Tryz.ntmps22
  go_upto_region 14 with fail
  generalize hx : World.alloc (World.alloc w _) _ = wb at HA HZ HW a0 ⊢
  clear hx a0
  obtain ⟨v1, c1⟩ : ∃ v, wb.cell? ⟨w.heap.size, 1, none⟩ = some v := ⟨_, (cell_of_row wb w.heap.size 1 _ _ _ HA.out).trans (Array.getElem?_eq_getElem (i := 1) (by rw [hs]; omega))⟩
  have f1 := frozen_of_row wb w.heap.size 1 _ _ HA.out
  obtain ⟨v3, c3⟩ : ∃ v, wb.cell? ⟨w.heap.size, 3, none⟩ = some v := ⟨_, (cell_of_row wb w.heap.size 3 _ _ _ HA.out).trans (Array.getElem?_eq_getElem (i := 3) (by rw [hs]; omega))⟩
  have f3 := frozen_of_row wb w.heap.size 3 _ _ HA.out
  obtain ⟨v4, c4⟩ : ∃ v, wb.cell? ⟨w.heap.size, 4, none⟩ = some v := ⟨_, (cell_of_row wb w.heap.size 4 _ _ _ HA.out).trans (Array.getElem?_eq_getElem (i := 4) (by rw [hs]; omega))⟩
  have f4 := frozen_of_row wb w.heap.size 4 _ _ HA.out
  obtain ⟨v5, c5⟩ : ∃ v, wb.cell? ⟨w.heap.size, 5, none⟩ = some v := ⟨_, (cell_of_row wb w.heap.size 5 _ _ _ HA.out).trans (Array.getElem?_eq_getElem (i := 5) (by rw [hs]; omega))⟩
  have f5 := frozen_of_row wb w.heap.size 5 _ _ HA.out
  obtain ⟨v6, c6⟩ : ∃ v, wb.cell? ⟨w.heap.size, 6, none⟩ = some v := ⟨_, (cell_of_row wb w.heap.size 6 _ _ _ HA.out).trans (Array.getElem?_eq_getElem (i := 6) (by rw [hs]; omega))⟩
  have f6 := frozen_of_row wb w.heap.size 6 _ _ HA.out
  have q0 : ((wb.setCell ⟨w.heap.size, 1, none⟩ (.string ⟨#[]⟩))).heap[w.heap.size]? = some (.cells (cs.setIfInBounds 1 (.string ⟨#[]⟩)) 28 (0, 0)) := heap_setCell_same _ w.heap.size 1 _ _ _ HA.out
  have q1 : (((wb.setCell ⟨w.heap.size, 1, none⟩ (.string ⟨#[]⟩)).setCell ⟨w.heap.size, 3, none⟩ (.int .i64 0))).heap[w.heap.size]? = some (.cells ((cs.setIfInBounds 1 (.string ⟨#[]⟩)).setIfInBounds 3 (.int .i64 0)) 28 (0, 0)) := heap_setCell_same _ w.heap.size 3 _ _ _ q0
  have q2 : ((((wb.setCell ⟨w.heap.size, 1, none⟩ (.string ⟨#[]⟩)).setCell ⟨w.heap.size, 3, none⟩ (.int .i64 0)).setCell ⟨w.heap.size, 4, none⟩ (.int .i64 0))).heap[w.heap.size]? = some (.cells (((cs.setIfInBounds 1 (.string ⟨#[]⟩)).setIfInBounds 3 (.int .i64 0)).setIfInBounds 4 (.int .i64 0)) 28 (0, 0)) := heap_setCell_same _ w.heap.size 4 _ _ _ q1
  have q3 : (((((wb.setCell ⟨w.heap.size, 1, none⟩ (.string ⟨#[]⟩)).setCell ⟨w.heap.size, 3, none⟩ (.int .i64 0)).setCell ⟨w.heap.size, 4, none⟩ (.int .i64 0)).setCell ⟨w.heap.size, 5, none⟩ (.int .i64 0))).heap[w.heap.size]? = some (.cells ((((cs.setIfInBounds 1 (.string ⟨#[]⟩)).setIfInBounds 3 (.int .i64 0)).setIfInBounds 4 (.int .i64 0)).setIfInBounds 5 (.int .i64 0)) 28 (0, 0)) := heap_setCell_same _ w.heap.size 5 _ _ _ q2
  have q4 : ((((((wb.setCell ⟨w.heap.size, 1, none⟩ (.string ⟨#[]⟩)).setCell ⟨w.heap.size, 3, none⟩ (.int .i64 0)).setCell ⟨w.heap.size, 4, none⟩ (.int .i64 0)).setCell ⟨w.heap.size, 5, none⟩ (.int .i64 0)).setCell ⟨w.heap.size, 6, none⟩ (.int .i64 0))).heap[w.heap.size]? = some (.cells (((((cs.setIfInBounds 1 (.string ⟨#[]⟩)).setIfInBounds 3 (.int .i64 0)).setIfInBounds 4 (.int .i64 0)).setIfInBounds 5 (.int .i64 0)).setIfInBounds 6 (.int .i64 0)) 28 (0, 0)) := heap_setCell_same _ w.heap.size 6 _ _ _ q3
  have HB := Lib.hid (show ((((((wb.setCell ⟨w.heap.size, 1, none⟩ (.string ⟨#[]⟩)).setCell ⟨w.heap.size, 3, none⟩ (.int .i64 0)).setCell ⟨w.heap.size, 4, none⟩ (.int .i64 0)).setCell ⟨w.heap.size, 5, none⟩ (.int .i64 0)).setCell ⟨w.heap.size, 6, none⟩ (.int .i64 0))).heap[w.heap.size]? = some (.cells (bare2 cs) 28 (0, 0)) from q4)
  clear q0 q1 q2 q3 q4
  have HZ2 : Hid (((((((wb.setCell ⟨w.heap.size, 1, none⟩ (.string ⟨#[]⟩)).setCell ⟨w.heap.size, 3, none⟩ (.int .i64 0)).setCell ⟨w.heap.size, 4, none⟩ (.int .i64 0)).setCell ⟨w.heap.size, 5, none⟩ (.int .i64 0)).setCell ⟨w.heap.size, 6, none⟩ (.int .i64 0))).heap[w.heap.size + 1]? = some (.cells #[.int .i64 0, .string ⟨#[]⟩, .string ⟨#[]⟩, .int .i64 0, .int .i64 0, .int .i64 0, .int .i64 0, .int .i64 0, .int .i64 0, .int .i64 0, .int .i64 0, .int .i64 0, .int .i64 0, .string ⟨#[]⟩, .bool false, .bool false, .string ⟨#[]⟩, .int .i64 0, .string ⟨#[]⟩, .string ⟨#[]⟩, .string ⟨#[]⟩, .slice none 0 0] 28 (0, 0))) := Lib.hid ((heap_setCell_other _ ⟨w.heap.size, 6, none⟩ (w.heap.size + 1) (.int .i64 0) (by simp)).trans ((heap_setCell_other _ ⟨w.heap.size, 5, none⟩ (w.heap.size + 1) (.int .i64 0) (by simp)).trans ((heap_setCell_other _ ⟨w.heap.size, 4, none⟩ (w.heap.size + 1) (.int .i64 0) (by simp)).trans ((heap_setCell_other _ ⟨w.heap.size, 3, none⟩ (w.heap.size + 1) (.int .i64 0) (by simp)).trans ((heap_setCell_other _ ⟨w.heap.size, 1, none⟩ (w.heap.size + 1) (.string ⟨#[]⟩) (by simp)).trans HZ.out)))))
  have s0 := Below.setCell HW.out (p := ⟨w.heap.size, 1, none⟩) (Nat.le_refl _) (.string ⟨#[]⟩)
  have s1 := Below.setCell s0 (p := ⟨w.heap.size, 3, none⟩) (Nat.le_refl _) (.int .i64 0)
  have s2 := Below.setCell s1 (p := ⟨w.heap.size, 4, none⟩) (Nat.le_refl _) (.int .i64 0)
  have s3 := Below.setCell s2 (p := ⟨w.heap.size, 5, none⟩) (Nat.le_refl _) (.int .i64 0)
  have s4 := Below.setCell s3 (p := ⟨w.heap.size, 6, none⟩) (Nat.le_refl _) (.int .i64 0)
  have HW2 := Lib.hid s4
  clear s0 s1 s2 s3 s4
  have hsz : (bare2 cs).size = 22 := (bare2_size cs).trans hs
  have HI := Lib.hid (And.intro (cmd_info hsz) h1)
  have HSZ := Lib.hid hsz
  clear hs hk h1 hsz HA HZ HW
  go_upto_region 22 with fail
  generalize hx : (((((wb.setCell ⟨w.heap.size, 1, none⟩ (.string ⟨#[]⟩)).setCell ⟨w.heap.size, 3, none⟩ (.int .i64 0)).setCell ⟨w.heap.size, 4, none⟩ (.int .i64 0)).setCell ⟨w.heap.size, 5, none⟩ (.int .i64 0)).setCell ⟨w.heap.size, 6, none⟩ (.int .i64 0)) = wc at HB HZ2 HW2 ⊢
  clear hx c1 f1 c3 f3 c4 f4 c5 f5 c6 f6
  go_wp2_with ((with_reducible refine wpList_load_row (o := ⟨some 48, _, _, _, _, _⟩) ?a1 28 (.tmp 1) ?a2 w.heap.size ?a3 28 (bare2 cs) (0, 0) _ HB.out Tryz.underlying28 ?a4 HI.out.1 ?_); (case a1 => rfl); (case a2 => rfl); (case a3 => rfl); (case a4 => rfl); refine Stop.out ?_)
  unfold Stop
  go_wp2_with ((with_reducible refine wpList_store_row (o := ⟨none, _, _, _, _, _⟩) ?b1 28 (.tmp 2) (.tmp 48) ?b2 (w.heap.size + 1) (bare2 cs) ?b3 ?b4 28 #[.int .i64 0, .string ⟨#[]⟩, .string ⟨#[]⟩, .int .i64 0, .int .i64 0, .int .i64 0, .int .i64 0, .int .i64 0, .int .i64 0, .int .i64 0, .int .i64 0, .int .i64 0, .int .i64 0, .string ⟨#[]⟩, .bool false, .bool false, .string ⟨#[]⟩, .int .i64 0, .string ⟨#[]⟩, .string ⟨#[]⟩, .string ⟨#[]⟩, .slice none 0 0] HZ2.out HI.out.1 ?b5 HI.out.2 ?_); (case b1 => rfl); (case b2 => rfl); (case b3 => rfl); (case b4 => rfl); (case b5 => exact HSZ.out.symm); have HP9 := Lib.hid (setRow_heap wc (w.heap.size + 1) _ (bare2 cs) _ _ HZ2.out); have HB9 := Lib.hid (below_setRow HW2.out (g := w.heap.size + 1) (by omega) (bare2 cs)); refine Stop.out ?_)
  unfold Stop
  go_wp2
  exact bodyPost_ret (v := .agg (bare2 cs)) (results_cell_row Tryz.results22 _ _ (w.heap.size + 1) 28 (bare2 cs) (0, 0) _ rfl HP9.out Tryz.underlying28 rfl HI.out.1) rfl ⟨rfl, HB9.out⟩
def bare3 (cs : Array Value) : Array Value := ((cs.setIfInBounds 5 (.int .i64 0)).setIfInBounds 6 (.int .i64 0))
theorem bare3_size (cs : Array Value) : (bare3 cs).size = cs.size := by unfold bare3; simp
set_option maxHeartbeats 2000000 in
theorem unnamed_3 (cs : Array Value) (w : World) (hs : cs.size = 22) (hk : cs[0]? = some (.int .i64 3)) (h1 : (bare3 cs).all (·.oneCell') = true) : Calls Tryz.prog 22 #[.agg cs] w fun e w1 => e = .returned (.agg (bare3 cs)) ∧ Below w.heap.size w w1 := by
  have hb0 := heap_alloc_new w (.cells cs 28)
  have hb1 := heap_alloc_new (w.alloc (.cells cs 28)) (.cells zeroCmd 28)
  simp only [World.size_alloc] at hb1
  have HA := Lib.hid (heap_on (below_alloc (w.alloc (.cells cs 28)) (.cells zeroCmd 28)) hb0)
  have HZ := Lib.hid hb1
  have HW := Lib.hid (show Below w.heap.size w ((w.alloc (.cells cs 28)).alloc (.cells zeroCmd 28)) from below_more (below_alloc _ _))
  have a0 : ((w.alloc (.cells cs 28)).alloc (.cells zeroCmd 28)).cell? ⟨w.heap.size, 0, none⟩ = some (.int .i64 3) := (cell_of_row _ _ 0 _ _ _ HA.out).trans hk
  unfold zeroCmd at a0 HA HZ HW
  clear hb0 hb1
  go_enter Tryz.func22, Tryz.ntmps22
  go_upto_region 15 with fail
  generalize hx : World.alloc (World.alloc w _) _ = wb at HA HZ HW a0 ⊢
  clear hx a0
  obtain ⟨v5, c5⟩ : ∃ v, wb.cell? ⟨w.heap.size, 5, none⟩ = some v := ⟨_, (cell_of_row wb w.heap.size 5 _ _ _ HA.out).trans (Array.getElem?_eq_getElem (i := 5) (by rw [hs]; omega))⟩
  have f5 := frozen_of_row wb w.heap.size 5 _ _ HA.out
  obtain ⟨v6, c6⟩ : ∃ v, wb.cell? ⟨w.heap.size, 6, none⟩ = some v := ⟨_, (cell_of_row wb w.heap.size 6 _ _ _ HA.out).trans (Array.getElem?_eq_getElem (i := 6) (by rw [hs]; omega))⟩
  have f6 := frozen_of_row wb w.heap.size 6 _ _ HA.out
  have q0 : ((wb.setCell ⟨w.heap.size, 5, none⟩ (.int .i64 0))).heap[w.heap.size]? = some (.cells (cs.setIfInBounds 5 (.int .i64 0)) 28 (0, 0)) := heap_setCell_same _ w.heap.size 5 _ _ _ HA.out
  have q1 : (((wb.setCell ⟨w.heap.size, 5, none⟩ (.int .i64 0)).setCell ⟨w.heap.size, 6, none⟩ (.int .i64 0))).heap[w.heap.size]? = some (.cells ((cs.setIfInBounds 5 (.int .i64 0)).setIfInBounds 6 (.int .i64 0)) 28 (0, 0)) := heap_setCell_same _ w.heap.size 6 _ _ _ q0
  have HB := Lib.hid (show (((wb.setCell ⟨w.heap.size, 5, none⟩ (.int .i64 0)).setCell ⟨w.heap.size, 6, none⟩ (.int .i64 0))).heap[w.heap.size]? = some (.cells (bare3 cs) 28 (0, 0)) from q1)
  clear q0 q1
  have HZ2 : Hid ((((wb.setCell ⟨w.heap.size, 5, none⟩ (.int .i64 0)).setCell ⟨w.heap.size, 6, none⟩ (.int .i64 0))).heap[w.heap.size + 1]? = some (.cells #[.int .i64 0, .string ⟨#[]⟩, .string ⟨#[]⟩, .int .i64 0, .int .i64 0, .int .i64 0, .int .i64 0, .int .i64 0, .int .i64 0, .int .i64 0, .int .i64 0, .int .i64 0, .int .i64 0, .string ⟨#[]⟩, .bool false, .bool false, .string ⟨#[]⟩, .int .i64 0, .string ⟨#[]⟩, .string ⟨#[]⟩, .string ⟨#[]⟩, .slice none 0 0] 28 (0, 0))) := Lib.hid ((heap_setCell_other _ ⟨w.heap.size, 6, none⟩ (w.heap.size + 1) (.int .i64 0) (by simp)).trans ((heap_setCell_other _ ⟨w.heap.size, 5, none⟩ (w.heap.size + 1) (.int .i64 0) (by simp)).trans HZ.out))
  have s0 := Below.setCell HW.out (p := ⟨w.heap.size, 5, none⟩) (Nat.le_refl _) (.int .i64 0)
  have s1 := Below.setCell s0 (p := ⟨w.heap.size, 6, none⟩) (Nat.le_refl _) (.int .i64 0)
  have HW2 := Lib.hid s1
  clear s0 s1
  have hsz : (bare3 cs).size = 22 := (bare3_size cs).trans hs
  have HI := Lib.hid (And.intro (cmd_info hsz) h1)
  have HSZ := Lib.hid hsz
  clear hs hk h1 hsz HA HZ HW
  go_upto_region 22 with fail
  generalize hx : ((wb.setCell ⟨w.heap.size, 5, none⟩ (.int .i64 0)).setCell ⟨w.heap.size, 6, none⟩ (.int .i64 0)) = wc at HB HZ2 HW2 ⊢
  clear hx c5 f5 c6 f6
  go_wp2_with ((with_reducible refine wpList_load_row (o := ⟨some 48, _, _, _, _, _⟩) ?a1 28 (.tmp 1) ?a2 w.heap.size ?a3 28 (bare3 cs) (0, 0) _ HB.out Tryz.underlying28 ?a4 HI.out.1 ?_); (case a1 => rfl); (case a2 => rfl); (case a3 => rfl); (case a4 => rfl); refine Stop.out ?_)
  unfold Stop
  go_wp2_with ((with_reducible refine wpList_store_row (o := ⟨none, _, _, _, _, _⟩) ?b1 28 (.tmp 2) (.tmp 48) ?b2 (w.heap.size + 1) (bare3 cs) ?b3 ?b4 28 #[.int .i64 0, .string ⟨#[]⟩, .string ⟨#[]⟩, .int .i64 0, .int .i64 0, .int .i64 0, .int .i64 0, .int .i64 0, .int .i64 0, .int .i64 0, .int .i64 0, .int .i64 0, .int .i64 0, .string ⟨#[]⟩, .bool false, .bool false, .string ⟨#[]⟩, .int .i64 0, .string ⟨#[]⟩, .string ⟨#[]⟩, .string ⟨#[]⟩, .slice none 0 0] HZ2.out HI.out.1 ?b5 HI.out.2 ?_); (case b1 => rfl); (case b2 => rfl); (case b3 => rfl); (case b4 => rfl); (case b5 => exact HSZ.out.symm); have HP9 := Lib.hid (setRow_heap wc (w.heap.size + 1) _ (bare3 cs) _ _ HZ2.out); have HB9 := Lib.hid (below_setRow HW2.out (g := w.heap.size + 1) (by omega) (bare3 cs)); refine Stop.out ?_)
  unfold Stop
  go_wp2
  exact bodyPost_ret (v := .agg (bare3 cs)) (results_cell_row Tryz.results22 _ _ (w.heap.size + 1) 28 (bare3 cs) (0, 0) _ rfl HP9.out Tryz.underlying28 rfl HI.out.1) rfl ⟨rfl, HB9.out⟩
def bare4 (cs : Array Value) : Array Value := ((((cs.setIfInBounds 1 (.string ⟨#[]⟩)).setIfInBounds 2 (.string ⟨#[]⟩)).setIfInBounds 5 (.int .i64 0)).setIfInBounds 6 (.int .i64 0))
theorem bare4_size (cs : Array Value) : (bare4 cs).size = cs.size := by unfold bare4; simp
set_option maxHeartbeats 2000000 in
theorem unnamed_4 (cs : Array Value) (w : World) (hs : cs.size = 22) (hk : cs[0]? = some (.int .i64 4)) (h1 : (bare4 cs).all (·.oneCell') = true) : Calls Tryz.prog 22 #[.agg cs] w fun e w1 => e = .returned (.agg (bare4 cs)) ∧ Below w.heap.size w w1 := by
  have hb0 := heap_alloc_new w (.cells cs 28)
  have hb1 := heap_alloc_new (w.alloc (.cells cs 28)) (.cells zeroCmd 28)
  simp only [World.size_alloc] at hb1
  have HA := Lib.hid (heap_on (below_alloc (w.alloc (.cells cs 28)) (.cells zeroCmd 28)) hb0)
  have HZ := Lib.hid hb1
  have HW := Lib.hid (show Below w.heap.size w ((w.alloc (.cells cs 28)).alloc (.cells zeroCmd 28)) from below_more (below_alloc _ _))
  have a0 : ((w.alloc (.cells cs 28)).alloc (.cells zeroCmd 28)).cell? ⟨w.heap.size, 0, none⟩ = some (.int .i64 4) := (cell_of_row _ _ 0 _ _ _ HA.out).trans hk
  unfold zeroCmd at a0 HA HZ HW
  clear hb0 hb1
  go_enter Tryz.func22, Tryz.ntmps22
  go_upto_region 16 with fail
  generalize hx : World.alloc (World.alloc w _) _ = wb at HA HZ HW a0 ⊢
  clear hx a0
  obtain ⟨v1, c1⟩ : ∃ v, wb.cell? ⟨w.heap.size, 1, none⟩ = some v := ⟨_, (cell_of_row wb w.heap.size 1 _ _ _ HA.out).trans (Array.getElem?_eq_getElem (i := 1) (by rw [hs]; omega))⟩
  have f1 := frozen_of_row wb w.heap.size 1 _ _ HA.out
  obtain ⟨v2, c2⟩ : ∃ v, wb.cell? ⟨w.heap.size, 2, none⟩ = some v := ⟨_, (cell_of_row wb w.heap.size 2 _ _ _ HA.out).trans (Array.getElem?_eq_getElem (i := 2) (by rw [hs]; omega))⟩
  have f2 := frozen_of_row wb w.heap.size 2 _ _ HA.out
  obtain ⟨v5, c5⟩ : ∃ v, wb.cell? ⟨w.heap.size, 5, none⟩ = some v := ⟨_, (cell_of_row wb w.heap.size 5 _ _ _ HA.out).trans (Array.getElem?_eq_getElem (i := 5) (by rw [hs]; omega))⟩
  have f5 := frozen_of_row wb w.heap.size 5 _ _ HA.out
  obtain ⟨v6, c6⟩ : ∃ v, wb.cell? ⟨w.heap.size, 6, none⟩ = some v := ⟨_, (cell_of_row wb w.heap.size 6 _ _ _ HA.out).trans (Array.getElem?_eq_getElem (i := 6) (by rw [hs]; omega))⟩
  have f6 := frozen_of_row wb w.heap.size 6 _ _ HA.out
  have q0 : ((wb.setCell ⟨w.heap.size, 1, none⟩ (.string ⟨#[]⟩))).heap[w.heap.size]? = some (.cells (cs.setIfInBounds 1 (.string ⟨#[]⟩)) 28 (0, 0)) := heap_setCell_same _ w.heap.size 1 _ _ _ HA.out
  have q1 : (((wb.setCell ⟨w.heap.size, 1, none⟩ (.string ⟨#[]⟩)).setCell ⟨w.heap.size, 2, none⟩ (.string ⟨#[]⟩))).heap[w.heap.size]? = some (.cells ((cs.setIfInBounds 1 (.string ⟨#[]⟩)).setIfInBounds 2 (.string ⟨#[]⟩)) 28 (0, 0)) := heap_setCell_same _ w.heap.size 2 _ _ _ q0
  have q2 : ((((wb.setCell ⟨w.heap.size, 1, none⟩ (.string ⟨#[]⟩)).setCell ⟨w.heap.size, 2, none⟩ (.string ⟨#[]⟩)).setCell ⟨w.heap.size, 5, none⟩ (.int .i64 0))).heap[w.heap.size]? = some (.cells (((cs.setIfInBounds 1 (.string ⟨#[]⟩)).setIfInBounds 2 (.string ⟨#[]⟩)).setIfInBounds 5 (.int .i64 0)) 28 (0, 0)) := heap_setCell_same _ w.heap.size 5 _ _ _ q1
  have q3 : (((((wb.setCell ⟨w.heap.size, 1, none⟩ (.string ⟨#[]⟩)).setCell ⟨w.heap.size, 2, none⟩ (.string ⟨#[]⟩)).setCell ⟨w.heap.size, 5, none⟩ (.int .i64 0)).setCell ⟨w.heap.size, 6, none⟩ (.int .i64 0))).heap[w.heap.size]? = some (.cells ((((cs.setIfInBounds 1 (.string ⟨#[]⟩)).setIfInBounds 2 (.string ⟨#[]⟩)).setIfInBounds 5 (.int .i64 0)).setIfInBounds 6 (.int .i64 0)) 28 (0, 0)) := heap_setCell_same _ w.heap.size 6 _ _ _ q2
  have HB := Lib.hid (show (((((wb.setCell ⟨w.heap.size, 1, none⟩ (.string ⟨#[]⟩)).setCell ⟨w.heap.size, 2, none⟩ (.string ⟨#[]⟩)).setCell ⟨w.heap.size, 5, none⟩ (.int .i64 0)).setCell ⟨w.heap.size, 6, none⟩ (.int .i64 0))).heap[w.heap.size]? = some (.cells (bare4 cs) 28 (0, 0)) from q3)
  clear q0 q1 q2 q3
  have HZ2 : Hid ((((((wb.setCell ⟨w.heap.size, 1, none⟩ (.string ⟨#[]⟩)).setCell ⟨w.heap.size, 2, none⟩ (.string ⟨#[]⟩)).setCell ⟨w.heap.size, 5, none⟩ (.int .i64 0)).setCell ⟨w.heap.size, 6, none⟩ (.int .i64 0))).heap[w.heap.size + 1]? = some (.cells #[.int .i64 0, .string ⟨#[]⟩, .string ⟨#[]⟩, .int .i64 0, .int .i64 0, .int .i64 0, .int .i64 0, .int .i64 0, .int .i64 0, .int .i64 0, .int .i64 0, .int .i64 0, .int .i64 0, .string ⟨#[]⟩, .bool false, .bool false, .string ⟨#[]⟩, .int .i64 0, .string ⟨#[]⟩, .string ⟨#[]⟩, .string ⟨#[]⟩, .slice none 0 0] 28 (0, 0))) := Lib.hid ((heap_setCell_other _ ⟨w.heap.size, 6, none⟩ (w.heap.size + 1) (.int .i64 0) (by simp)).trans ((heap_setCell_other _ ⟨w.heap.size, 5, none⟩ (w.heap.size + 1) (.int .i64 0) (by simp)).trans ((heap_setCell_other _ ⟨w.heap.size, 2, none⟩ (w.heap.size + 1) (.string ⟨#[]⟩) (by simp)).trans ((heap_setCell_other _ ⟨w.heap.size, 1, none⟩ (w.heap.size + 1) (.string ⟨#[]⟩) (by simp)).trans HZ.out))))
  have s0 := Below.setCell HW.out (p := ⟨w.heap.size, 1, none⟩) (Nat.le_refl _) (.string ⟨#[]⟩)
  have s1 := Below.setCell s0 (p := ⟨w.heap.size, 2, none⟩) (Nat.le_refl _) (.string ⟨#[]⟩)
  have s2 := Below.setCell s1 (p := ⟨w.heap.size, 5, none⟩) (Nat.le_refl _) (.int .i64 0)
  have s3 := Below.setCell s2 (p := ⟨w.heap.size, 6, none⟩) (Nat.le_refl _) (.int .i64 0)
  have HW2 := Lib.hid s3
  clear s0 s1 s2 s3
  have hsz : (bare4 cs).size = 22 := (bare4_size cs).trans hs
  have HI := Lib.hid (And.intro (cmd_info hsz) h1)
  have HSZ := Lib.hid hsz
  clear hs hk h1 hsz HA HZ HW
  go_upto_region 22 with fail
  generalize hx : ((((wb.setCell ⟨w.heap.size, 1, none⟩ (.string ⟨#[]⟩)).setCell ⟨w.heap.size, 2, none⟩ (.string ⟨#[]⟩)).setCell ⟨w.heap.size, 5, none⟩ (.int .i64 0)).setCell ⟨w.heap.size, 6, none⟩ (.int .i64 0)) = wc at HB HZ2 HW2 ⊢
  clear hx c1 f1 c2 f2 c5 f5 c6 f6
  go_wp2_with ((with_reducible refine wpList_load_row (o := ⟨some 48, _, _, _, _, _⟩) ?a1 28 (.tmp 1) ?a2 w.heap.size ?a3 28 (bare4 cs) (0, 0) _ HB.out Tryz.underlying28 ?a4 HI.out.1 ?_); (case a1 => rfl); (case a2 => rfl); (case a3 => rfl); (case a4 => rfl); refine Stop.out ?_)
  unfold Stop
  go_wp2_with ((with_reducible refine wpList_store_row (o := ⟨none, _, _, _, _, _⟩) ?b1 28 (.tmp 2) (.tmp 48) ?b2 (w.heap.size + 1) (bare4 cs) ?b3 ?b4 28 #[.int .i64 0, .string ⟨#[]⟩, .string ⟨#[]⟩, .int .i64 0, .int .i64 0, .int .i64 0, .int .i64 0, .int .i64 0, .int .i64 0, .int .i64 0, .int .i64 0, .int .i64 0, .int .i64 0, .string ⟨#[]⟩, .bool false, .bool false, .string ⟨#[]⟩, .int .i64 0, .string ⟨#[]⟩, .string ⟨#[]⟩, .string ⟨#[]⟩, .slice none 0 0] HZ2.out HI.out.1 ?b5 HI.out.2 ?_); (case b1 => rfl); (case b2 => rfl); (case b3 => rfl); (case b4 => rfl); (case b5 => exact HSZ.out.symm); have HP9 := Lib.hid (setRow_heap wc (w.heap.size + 1) _ (bare4 cs) _ _ HZ2.out); have HB9 := Lib.hid (below_setRow HW2.out (g := w.heap.size + 1) (by omega) (bare4 cs)); refine Stop.out ?_)
  unfold Stop
  go_wp2
  exact bodyPost_ret (v := .agg (bare4 cs)) (results_cell_row Tryz.results22 _ _ (w.heap.size + 1) 28 (bare4 cs) (0, 0) _ rfl HP9.out Tryz.underlying28 rfl HI.out.1) rfl ⟨rfl, HB9.out⟩
end Go.Proofs.YtplghpamckdklaaGreat
