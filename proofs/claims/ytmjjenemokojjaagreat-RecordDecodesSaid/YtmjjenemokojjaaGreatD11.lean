/- Commands without the fields that their kind names: the program's. Rows of lines of the call's own: an append behind a row that is full. A reader of any bytes: what it tells, and what it is then. Commands: what may be: the program's. -/
import Derived.Test.YtmjjenemokojjaaGreatD10
import Derived.WalkMore
import Derived.Deep.Cut
import Derived.Deep.DeepCutAuto
import Derived.Laws.Tables
import Derived.Laws.CopyOwn
import Derived.Test.YtmjjenemokojjaaGreatD3
import Derived.Laws.OwnMore
import Derived.Test.YtmjjenemokojjaaGreatD6
import Derived.Laws.Rows
namespace Go.Proofs.YtmjjenemokojjaaGreat
open Go.RowKit
set_option maxRecDepth 100000
set_option linter.unusedSimpArgs false
set_option linter.unusedVariables false

theorem cmd_info {n : Nat} (h : n = 22) : (Tryz.prog.info? 28).map (·.size) = some n := by subst h; kernel_rfl
abbrev zeroCmd : Array Value := #[.int .i64 0, .string ⟨#[]⟩, .string ⟨#[]⟩, .int .i64 0, .int .i64 0, .int .i64 0, .int .i64 0, .int .i64 0, .int .i64 0, .int .i64 0, .int .i64 0, .int .i64 0, .int .i64 0, .string ⟨#[]⟩, .bool false, .bool false, .string ⟨#[]⟩, .int .i64 0, .string ⟨#[]⟩, .string ⟨#[]⟩, .string ⟨#[]⟩, .slice none 0 0]
theorem zeroCmd_size : zeroCmd.size = 22 := rfl
def bare11 (cs : Array Value) : Array Value := (((cs.setIfInBounds 10 (.int .i64 0)).setIfInBounds 11 (.int .i64 0)).setIfInBounds 12 (.int .i64 0))
theorem bare11_size (cs : Array Value) : (bare11 cs).size = cs.size := by unfold bare11; simp
set_option maxHeartbeats 1000000 in
theorem unnamed_11 (cs : Array Value) (w : World) (hs : cs.size = 22) (hk : cs[0]? = some (.int .i64 11)) (h1 : (bare11 cs).all (·.oneCell') = true) : Calls Tryz.prog 22 #[.agg cs] w fun e w1 => e = .returned (.agg (bare11 cs)) ∧ Below w.heap.size w w1 := by
 have hb0 := heap_alloc_new w (.cells cs 28)
 have hb1 := heap_alloc_new (w.alloc (.cells cs 28)) (.cells zeroCmd 28)
 simp only [World.size_alloc] at hb1
 have HA := Lib.hid (heap_on (below_alloc (w.alloc (.cells cs 28)) (.cells zeroCmd 28)) hb0)
 have HZ := Lib.hid hb1
 have HW := Lib.hid (show Below w.heap.size w ((w.alloc (.cells cs 28)).alloc (.cells zeroCmd 28)) from below_more (below_alloc _ _))
 have a0 : ((w.alloc (.cells cs 28)).alloc (.cells zeroCmd 28)).cell? ⟨w.heap.size, 0, none⟩ = some (.int .i64 11) := (cell_of_row _ _ 0 _ _ _ HA.out).trans hk
 clear hb0 hb1
 go_enter Tryz.func22, Tryz.ntmps22
 go_upto_region 21 with fail
 generalize hx : World.alloc (World.alloc w _) _ = wb at HA HZ HW a0 ⊢
 clear hx a0
 obtain ⟨v10, c10⟩ : ∃ v, wb.cell? ⟨w.heap.size, 10, none⟩ = some v := ⟨_, (cell_of_row wb w.heap.size 10 _ _ _ HA.out).trans (Array.getElem?_eq_getElem (i := 10) (by rw [hs]; omega))⟩
 have f10 := frozen_of_row wb w.heap.size 10 _ _ HA.out
 obtain ⟨v11, c11⟩ : ∃ v, wb.cell? ⟨w.heap.size, 11, none⟩ = some v := ⟨_, (cell_of_row wb w.heap.size 11 _ _ _ HA.out).trans (Array.getElem?_eq_getElem (i := 11) (by rw [hs]; omega))⟩
 have f11 := frozen_of_row wb w.heap.size 11 _ _ HA.out
 obtain ⟨v12, c12⟩ : ∃ v, wb.cell? ⟨w.heap.size, 12, none⟩ = some v := ⟨_, (cell_of_row wb w.heap.size 12 _ _ _ HA.out).trans (Array.getElem?_eq_getElem (i := 12) (by rw [hs]; omega))⟩
 have f12 := frozen_of_row wb w.heap.size 12 _ _ HA.out
 have q0 : ((wb.setCell ⟨w.heap.size, 10, none⟩ (.int .i64 0))).heap[w.heap.size]? = some (.cells (cs.setIfInBounds 10 (.int .i64 0)) 28 (0, 0)) := heap_setCell_same _ w.heap.size 10 _ _ _ HA.out
 have q1 : (((wb.setCell ⟨w.heap.size, 10, none⟩ (.int .i64 0)).setCell ⟨w.heap.size, 11, none⟩ (.int .i64 0))).heap[w.heap.size]? = some (.cells ((cs.setIfInBounds 10 (.int .i64 0)).setIfInBounds 11 (.int .i64 0)) 28 (0, 0)) := heap_setCell_same _ w.heap.size 11 _ _ _ q0
 have q2 : ((((wb.setCell ⟨w.heap.size, 10, none⟩ (.int .i64 0)).setCell ⟨w.heap.size, 11, none⟩ (.int .i64 0)).setCell ⟨w.heap.size, 12, none⟩ (.int .i64 0))).heap[w.heap.size]? = some (.cells (((cs.setIfInBounds 10 (.int .i64 0)).setIfInBounds 11 (.int .i64 0)).setIfInBounds 12 (.int .i64 0)) 28 (0, 0)) := heap_setCell_same _ w.heap.size 12 _ _ _ q1
 have HB := Lib.hid (show ((((wb.setCell ⟨w.heap.size, 10, none⟩ (.int .i64 0)).setCell ⟨w.heap.size, 11, none⟩ (.int .i64 0)).setCell ⟨w.heap.size, 12, none⟩ (.int .i64 0))).heap[w.heap.size]? = some (.cells (bare11 cs) 28 (0, 0)) from q2)
 clear q0 q1 q2
 have HZ2 : Hid (((((wb.setCell ⟨w.heap.size, 10, none⟩ (.int .i64 0)).setCell ⟨w.heap.size, 11, none⟩ (.int .i64 0)).setCell ⟨w.heap.size, 12, none⟩ (.int .i64 0))).heap[w.heap.size + 1]? = some (.cells zeroCmd 28 (0, 0))) := Lib.hid ((heap_setCell_other _ ⟨w.heap.size, 12, none⟩ (w.heap.size + 1) (.int .i64 0) (by simp)).trans ((heap_setCell_other _ ⟨w.heap.size, 11, none⟩ (w.heap.size + 1) (.int .i64 0) (by simp)).trans ((heap_setCell_other _ ⟨w.heap.size, 10, none⟩ (w.heap.size + 1) (.int .i64 0) (by simp)).trans HZ.out)))
 have s0 := Below.setCell HW.out (p := ⟨w.heap.size, 10, none⟩) (Nat.le_refl _) (.int .i64 0)
 have s1 := Below.setCell s0 (p := ⟨w.heap.size, 11, none⟩) (Nat.le_refl _) (.int .i64 0)
 have s2 := Below.setCell s1 (p := ⟨w.heap.size, 12, none⟩) (Nat.le_refl _) (.int .i64 0)
 have HW2 := Lib.hid s2
 clear s0 s1 s2
 have hsz : (bare11 cs).size = 22 := (bare11_size cs).trans hs
 have HI := Lib.hid (And.intro (cmd_info hsz) h1)
 have HSZ := Lib.hid hsz
 clear hs hk h1 hsz HA HZ HW
 go_upto_region 22 with fail
 generalize hx : (((wb.setCell ⟨w.heap.size, 10, none⟩ (.int .i64 0)).setCell ⟨w.heap.size, 11, none⟩ (.int .i64 0)).setCell ⟨w.heap.size, 12, none⟩ (.int .i64 0)) = wc at HB HZ2 HW2 ⊢
 clear hx c10 f10 c11 f11 c12 f12
 go_wp2_with ((with_reducible refine wpList_load_row (o := ⟨some 48, _, _, _, _, _⟩) ?a1 28 (.tmp 1) ?a2 w.heap.size ?a3 28 (bare11 cs) (0, 0) _ HB.out Tryz.underlying28 ?a4 HI.out.1 ?_); (case a1 => rfl); (case a2 => rfl); (case a3 => rfl); (case a4 => rfl); refine Stop.out ?_)
 unfold Stop
 go_wp2_with ((with_reducible refine wpList_store_row (o := ⟨none, _, _, _, _, _⟩) ?b1 28 (.tmp 2) (.tmp 48) ?b2 (w.heap.size + 1) (bare11 cs) ?b3 ?b4 28 zeroCmd HZ2.out HI.out.1 ?b5 HI.out.2 ?_); (case b1 => rfl); (case b2 => rfl); (case b3 => rfl); (case b4 => rfl); (case b5 => exact HSZ.out.symm); have HP9 := Lib.hid (setRow_heap wc (w.heap.size + 1) _ (bare11 cs) _ _ HZ2.out); have HB9 := Lib.hid (below_setRow HW2.out (g := w.heap.size + 1) (by omega) (bare11 cs)); refine Stop.out ?_)
 unfold Stop
 go_wp2
 exact bodyPost_ret (v := .agg (bare11 cs)) (results_cell_row Tryz.results22 _ _ (w.heap.size + 1) 28 (bare11 cs) (0, 0) _ rfl HP9.out Tryz.underlying28 rfl HI.out.1) rfl ⟨rfl, HB9.out⟩
def bare8 (cs : Array Value) : Array Value := (((((((((cs.setIfInBounds 13 (.string ⟨#[]⟩)).setIfInBounds 14 (.bool false)).setIfInBounds 15 (.bool false)).setIfInBounds 16 (.string ⟨#[]⟩)).setIfInBounds 17 (.int .i64 0)).setIfInBounds 18 (.string ⟨#[]⟩)).setIfInBounds 19 (.string ⟨#[]⟩)).setIfInBounds 20 (.string ⟨#[]⟩)).setIfInBounds 21 (.slice none 0 0))
theorem bare8_size (cs : Array Value) : (bare8 cs).size = cs.size := by unfold bare8; simp
set_option maxHeartbeats 1000000 in
theorem unnamed_8 (cs : Array Value) (w : World) (hs : cs.size = 22) (hk : cs[0]? = some (.int .i64 8)) (h1 : (bare8 cs).all (·.oneCell') = true) : Calls Tryz.prog 22 #[.agg cs] w fun e w1 => e = .returned (.agg (bare8 cs)) ∧ Below w.heap.size w w1 := by
 have hb0 := heap_alloc_new w (.cells cs 28)
 have hb1 := heap_alloc_new (w.alloc (.cells cs 28)) (.cells zeroCmd 28)
 simp only [World.size_alloc] at hb1
 have HA := Lib.hid (heap_on (below_alloc (w.alloc (.cells cs 28)) (.cells zeroCmd 28)) hb0)
 have HZ := Lib.hid hb1
 have HW := Lib.hid (show Below w.heap.size w ((w.alloc (.cells cs 28)).alloc (.cells zeroCmd 28)) from below_more (below_alloc _ _))
 have a0 : ((w.alloc (.cells cs 28)).alloc (.cells zeroCmd 28)).cell? ⟨w.heap.size, 0, none⟩ = some (.int .i64 8) := (cell_of_row _ _ 0 _ _ _ HA.out).trans hk
 clear hb0 hb1
 go_enter Tryz.func22, Tryz.ntmps22
 go_upto_region 19 with fail
 generalize hx : World.alloc (World.alloc w _) _ = wb at HA HZ HW a0 ⊢
 clear hx a0
 obtain ⟨v13, c13⟩ : ∃ v, wb.cell? ⟨w.heap.size, 13, none⟩ = some v := ⟨_, (cell_of_row wb w.heap.size 13 _ _ _ HA.out).trans (Array.getElem?_eq_getElem (i := 13) (by rw [hs]; omega))⟩
 have f13 := frozen_of_row wb w.heap.size 13 _ _ HA.out
 obtain ⟨v14, c14⟩ : ∃ v, wb.cell? ⟨w.heap.size, 14, none⟩ = some v := ⟨_, (cell_of_row wb w.heap.size 14 _ _ _ HA.out).trans (Array.getElem?_eq_getElem (i := 14) (by rw [hs]; omega))⟩
 have f14 := frozen_of_row wb w.heap.size 14 _ _ HA.out
 obtain ⟨v15, c15⟩ : ∃ v, wb.cell? ⟨w.heap.size, 15, none⟩ = some v := ⟨_, (cell_of_row wb w.heap.size 15 _ _ _ HA.out).trans (Array.getElem?_eq_getElem (i := 15) (by rw [hs]; omega))⟩
 have f15 := frozen_of_row wb w.heap.size 15 _ _ HA.out
 obtain ⟨v16, c16⟩ : ∃ v, wb.cell? ⟨w.heap.size, 16, none⟩ = some v := ⟨_, (cell_of_row wb w.heap.size 16 _ _ _ HA.out).trans (Array.getElem?_eq_getElem (i := 16) (by rw [hs]; omega))⟩
 have f16 := frozen_of_row wb w.heap.size 16 _ _ HA.out
 obtain ⟨v17, c17⟩ : ∃ v, wb.cell? ⟨w.heap.size, 17, none⟩ = some v := ⟨_, (cell_of_row wb w.heap.size 17 _ _ _ HA.out).trans (Array.getElem?_eq_getElem (i := 17) (by rw [hs]; omega))⟩
 have f17 := frozen_of_row wb w.heap.size 17 _ _ HA.out
 obtain ⟨v18, c18⟩ : ∃ v, wb.cell? ⟨w.heap.size, 18, none⟩ = some v := ⟨_, (cell_of_row wb w.heap.size 18 _ _ _ HA.out).trans (Array.getElem?_eq_getElem (i := 18) (by rw [hs]; omega))⟩
 have f18 := frozen_of_row wb w.heap.size 18 _ _ HA.out
 obtain ⟨v19, c19⟩ : ∃ v, wb.cell? ⟨w.heap.size, 19, none⟩ = some v := ⟨_, (cell_of_row wb w.heap.size 19 _ _ _ HA.out).trans (Array.getElem?_eq_getElem (i := 19) (by rw [hs]; omega))⟩
 have f19 := frozen_of_row wb w.heap.size 19 _ _ HA.out
 obtain ⟨v20, c20⟩ : ∃ v, wb.cell? ⟨w.heap.size, 20, none⟩ = some v := ⟨_, (cell_of_row wb w.heap.size 20 _ _ _ HA.out).trans (Array.getElem?_eq_getElem (i := 20) (by rw [hs]; omega))⟩
 have f20 := frozen_of_row wb w.heap.size 20 _ _ HA.out
 obtain ⟨v21, c21⟩ : ∃ v, wb.cell? ⟨w.heap.size, 21, none⟩ = some v := ⟨_, (cell_of_row wb w.heap.size 21 _ _ _ HA.out).trans (Array.getElem?_eq_getElem (i := 21) (by rw [hs]; omega))⟩
 have f21 := frozen_of_row wb w.heap.size 21 _ _ HA.out
 have q0 : ((wb.setCell ⟨w.heap.size, 13, none⟩ (.string ⟨#[]⟩))).heap[w.heap.size]? = some (.cells (cs.setIfInBounds 13 (.string ⟨#[]⟩)) 28 (0, 0)) := heap_setCell_same _ w.heap.size 13 _ _ _ HA.out
 have q1 : (((wb.setCell ⟨w.heap.size, 13, none⟩ (.string ⟨#[]⟩)).setCell ⟨w.heap.size, 14, none⟩ (.bool false))).heap[w.heap.size]? = some (.cells ((cs.setIfInBounds 13 (.string ⟨#[]⟩)).setIfInBounds 14 (.bool false)) 28 (0, 0)) := heap_setCell_same _ w.heap.size 14 _ _ _ q0
 have q2 : ((((wb.setCell ⟨w.heap.size, 13, none⟩ (.string ⟨#[]⟩)).setCell ⟨w.heap.size, 14, none⟩ (.bool false)).setCell ⟨w.heap.size, 15, none⟩ (.bool false))).heap[w.heap.size]? = some (.cells (((cs.setIfInBounds 13 (.string ⟨#[]⟩)).setIfInBounds 14 (.bool false)).setIfInBounds 15 (.bool false)) 28 (0, 0)) := heap_setCell_same _ w.heap.size 15 _ _ _ q1
 have q3 : (((((wb.setCell ⟨w.heap.size, 13, none⟩ (.string ⟨#[]⟩)).setCell ⟨w.heap.size, 14, none⟩ (.bool false)).setCell ⟨w.heap.size, 15, none⟩ (.bool false)).setCell ⟨w.heap.size, 16, none⟩ (.string ⟨#[]⟩))).heap[w.heap.size]? = some (.cells ((((cs.setIfInBounds 13 (.string ⟨#[]⟩)).setIfInBounds 14 (.bool false)).setIfInBounds 15 (.bool false)).setIfInBounds 16 (.string ⟨#[]⟩)) 28 (0, 0)) := heap_setCell_same _ w.heap.size 16 _ _ _ q2
 have q4 : ((((((wb.setCell ⟨w.heap.size, 13, none⟩ (.string ⟨#[]⟩)).setCell ⟨w.heap.size, 14, none⟩ (.bool false)).setCell ⟨w.heap.size, 15, none⟩ (.bool false)).setCell ⟨w.heap.size, 16, none⟩ (.string ⟨#[]⟩)).setCell ⟨w.heap.size, 17, none⟩ (.int .i64 0))).heap[w.heap.size]? = some (.cells (((((cs.setIfInBounds 13 (.string ⟨#[]⟩)).setIfInBounds 14 (.bool false)).setIfInBounds 15 (.bool false)).setIfInBounds 16 (.string ⟨#[]⟩)).setIfInBounds 17 (.int .i64 0)) 28 (0, 0)) := heap_setCell_same _ w.heap.size 17 _ _ _ q3
 have q5 : (((((((wb.setCell ⟨w.heap.size, 13, none⟩ (.string ⟨#[]⟩)).setCell ⟨w.heap.size, 14, none⟩ (.bool false)).setCell ⟨w.heap.size, 15, none⟩ (.bool false)).setCell ⟨w.heap.size, 16, none⟩ (.string ⟨#[]⟩)).setCell ⟨w.heap.size, 17, none⟩ (.int .i64 0)).setCell ⟨w.heap.size, 18, none⟩ (.string ⟨#[]⟩))).heap[w.heap.size]? = some (.cells ((((((cs.setIfInBounds 13 (.string ⟨#[]⟩)).setIfInBounds 14 (.bool false)).setIfInBounds 15 (.bool false)).setIfInBounds 16 (.string ⟨#[]⟩)).setIfInBounds 17 (.int .i64 0)).setIfInBounds 18 (.string ⟨#[]⟩)) 28 (0, 0)) := heap_setCell_same _ w.heap.size 18 _ _ _ q4
 have q6 : ((((((((wb.setCell ⟨w.heap.size, 13, none⟩ (.string ⟨#[]⟩)).setCell ⟨w.heap.size, 14, none⟩ (.bool false)).setCell ⟨w.heap.size, 15, none⟩ (.bool false)).setCell ⟨w.heap.size, 16, none⟩ (.string ⟨#[]⟩)).setCell ⟨w.heap.size, 17, none⟩ (.int .i64 0)).setCell ⟨w.heap.size, 18, none⟩ (.string ⟨#[]⟩)).setCell ⟨w.heap.size, 19, none⟩ (.string ⟨#[]⟩))).heap[w.heap.size]? = some (.cells (((((((cs.setIfInBounds 13 (.string ⟨#[]⟩)).setIfInBounds 14 (.bool false)).setIfInBounds 15 (.bool false)).setIfInBounds 16 (.string ⟨#[]⟩)).setIfInBounds 17 (.int .i64 0)).setIfInBounds 18 (.string ⟨#[]⟩)).setIfInBounds 19 (.string ⟨#[]⟩)) 28 (0, 0)) := heap_setCell_same _ w.heap.size 19 _ _ _ q5
 have q7 : (((((((((wb.setCell ⟨w.heap.size, 13, none⟩ (.string ⟨#[]⟩)).setCell ⟨w.heap.size, 14, none⟩ (.bool false)).setCell ⟨w.heap.size, 15, none⟩ (.bool false)).setCell ⟨w.heap.size, 16, none⟩ (.string ⟨#[]⟩)).setCell ⟨w.heap.size, 17, none⟩ (.int .i64 0)).setCell ⟨w.heap.size, 18, none⟩ (.string ⟨#[]⟩)).setCell ⟨w.heap.size, 19, none⟩ (.string ⟨#[]⟩)).setCell ⟨w.heap.size, 20, none⟩ (.string ⟨#[]⟩))).heap[w.heap.size]? = some (.cells ((((((((cs.setIfInBounds 13 (.string ⟨#[]⟩)).setIfInBounds 14 (.bool false)).setIfInBounds 15 (.bool false)).setIfInBounds 16 (.string ⟨#[]⟩)).setIfInBounds 17 (.int .i64 0)).setIfInBounds 18 (.string ⟨#[]⟩)).setIfInBounds 19 (.string ⟨#[]⟩)).setIfInBounds 20 (.string ⟨#[]⟩)) 28 (0, 0)) := heap_setCell_same _ w.heap.size 20 _ _ _ q6
 have q8 : ((((((((((wb.setCell ⟨w.heap.size, 13, none⟩ (.string ⟨#[]⟩)).setCell ⟨w.heap.size, 14, none⟩ (.bool false)).setCell ⟨w.heap.size, 15, none⟩ (.bool false)).setCell ⟨w.heap.size, 16, none⟩ (.string ⟨#[]⟩)).setCell ⟨w.heap.size, 17, none⟩ (.int .i64 0)).setCell ⟨w.heap.size, 18, none⟩ (.string ⟨#[]⟩)).setCell ⟨w.heap.size, 19, none⟩ (.string ⟨#[]⟩)).setCell ⟨w.heap.size, 20, none⟩ (.string ⟨#[]⟩)).setCell ⟨w.heap.size, 21, none⟩ (.slice none 0 0))).heap[w.heap.size]? = some (.cells (((((((((cs.setIfInBounds 13 (.string ⟨#[]⟩)).setIfInBounds 14 (.bool false)).setIfInBounds 15 (.bool false)).setIfInBounds 16 (.string ⟨#[]⟩)).setIfInBounds 17 (.int .i64 0)).setIfInBounds 18 (.string ⟨#[]⟩)).setIfInBounds 19 (.string ⟨#[]⟩)).setIfInBounds 20 (.string ⟨#[]⟩)).setIfInBounds 21 (.slice none 0 0)) 28 (0, 0)) := heap_setCell_same _ w.heap.size 21 _ _ _ q7
 have HB := Lib.hid (show ((((((((((wb.setCell ⟨w.heap.size, 13, none⟩ (.string ⟨#[]⟩)).setCell ⟨w.heap.size, 14, none⟩ (.bool false)).setCell ⟨w.heap.size, 15, none⟩ (.bool false)).setCell ⟨w.heap.size, 16, none⟩ (.string ⟨#[]⟩)).setCell ⟨w.heap.size, 17, none⟩ (.int .i64 0)).setCell ⟨w.heap.size, 18, none⟩ (.string ⟨#[]⟩)).setCell ⟨w.heap.size, 19, none⟩ (.string ⟨#[]⟩)).setCell ⟨w.heap.size, 20, none⟩ (.string ⟨#[]⟩)).setCell ⟨w.heap.size, 21, none⟩ (.slice none 0 0))).heap[w.heap.size]? = some (.cells (bare8 cs) 28 (0, 0)) from q8)
 clear q0 q1 q2 q3 q4 q5 q6 q7 q8
 have HZ2 : Hid (((((((((((wb.setCell ⟨w.heap.size, 13, none⟩ (.string ⟨#[]⟩)).setCell ⟨w.heap.size, 14, none⟩ (.bool false)).setCell ⟨w.heap.size, 15, none⟩ (.bool false)).setCell ⟨w.heap.size, 16, none⟩ (.string ⟨#[]⟩)).setCell ⟨w.heap.size, 17, none⟩ (.int .i64 0)).setCell ⟨w.heap.size, 18, none⟩ (.string ⟨#[]⟩)).setCell ⟨w.heap.size, 19, none⟩ (.string ⟨#[]⟩)).setCell ⟨w.heap.size, 20, none⟩ (.string ⟨#[]⟩)).setCell ⟨w.heap.size, 21, none⟩ (.slice none 0 0))).heap[w.heap.size + 1]? = some (.cells zeroCmd 28 (0, 0))) := Lib.hid ((heap_setCell_other _ ⟨w.heap.size, 21, none⟩ (w.heap.size + 1) (.slice none 0 0) (by simp)).trans ((heap_setCell_other _ ⟨w.heap.size, 20, none⟩ (w.heap.size + 1) (.string ⟨#[]⟩) (by simp)).trans ((heap_setCell_other _ ⟨w.heap.size, 19, none⟩ (w.heap.size + 1) (.string ⟨#[]⟩) (by simp)).trans ((heap_setCell_other _ ⟨w.heap.size, 18, none⟩ (w.heap.size + 1) (.string ⟨#[]⟩) (by simp)).trans ((heap_setCell_other _ ⟨w.heap.size, 17, none⟩ (w.heap.size + 1) (.int .i64 0) (by simp)).trans ((heap_setCell_other _ ⟨w.heap.size, 16, none⟩ (w.heap.size + 1) (.string ⟨#[]⟩) (by simp)).trans ((heap_setCell_other _ ⟨w.heap.size, 15, none⟩ (w.heap.size + 1) (.bool false) (by simp)).trans ((heap_setCell_other _ ⟨w.heap.size, 14, none⟩ (w.heap.size + 1) (.bool false) (by simp)).trans ((heap_setCell_other _ ⟨w.heap.size, 13, none⟩ (w.heap.size + 1) (.string ⟨#[]⟩) (by simp)).trans HZ.out)))))))))
 have s0 := Below.setCell HW.out (p := ⟨w.heap.size, 13, none⟩) (Nat.le_refl _) (.string ⟨#[]⟩)
 have s1 := Below.setCell s0 (p := ⟨w.heap.size, 14, none⟩) (Nat.le_refl _) (.bool false)
 have s2 := Below.setCell s1 (p := ⟨w.heap.size, 15, none⟩) (Nat.le_refl _) (.bool false)
 have s3 := Below.setCell s2 (p := ⟨w.heap.size, 16, none⟩) (Nat.le_refl _) (.string ⟨#[]⟩)
 have s4 := Below.setCell s3 (p := ⟨w.heap.size, 17, none⟩) (Nat.le_refl _) (.int .i64 0)
 have s5 := Below.setCell s4 (p := ⟨w.heap.size, 18, none⟩) (Nat.le_refl _) (.string ⟨#[]⟩)
 have s6 := Below.setCell s5 (p := ⟨w.heap.size, 19, none⟩) (Nat.le_refl _) (.string ⟨#[]⟩)
 have s7 := Below.setCell s6 (p := ⟨w.heap.size, 20, none⟩) (Nat.le_refl _) (.string ⟨#[]⟩)
 have s8 := Below.setCell s7 (p := ⟨w.heap.size, 21, none⟩) (Nat.le_refl _) (.slice none 0 0)
 have HW2 := Lib.hid s8
 clear s0 s1 s2 s3 s4 s5 s6 s7 s8
 have hsz : (bare8 cs).size = 22 := (bare8_size cs).trans hs
 have HI := Lib.hid (And.intro (cmd_info hsz) h1)
 have HSZ := Lib.hid hsz
 clear hs hk h1 hsz HA HZ HW
 go_upto_region 22 with fail
 generalize hx : (((((((((wb.setCell ⟨w.heap.size, 13, none⟩ (.string ⟨#[]⟩)).setCell ⟨w.heap.size, 14, none⟩ (.bool false)).setCell ⟨w.heap.size, 15, none⟩ (.bool false)).setCell ⟨w.heap.size, 16, none⟩ (.string ⟨#[]⟩)).setCell ⟨w.heap.size, 17, none⟩ (.int .i64 0)).setCell ⟨w.heap.size, 18, none⟩ (.string ⟨#[]⟩)).setCell ⟨w.heap.size, 19, none⟩ (.string ⟨#[]⟩)).setCell ⟨w.heap.size, 20, none⟩ (.string ⟨#[]⟩)).setCell ⟨w.heap.size, 21, none⟩ (.slice none 0 0)) = wc at HB HZ2 HW2 ⊢
 clear hx c13 f13 c14 f14 c15 f15 c16 f16 c17 f17 c18 f18 c19 f19 c20 f20 c21 f21
 go_wp2_with ((with_reducible refine wpList_load_row (o := ⟨some 48, _, _, _, _, _⟩) ?a1 28 (.tmp 1) ?a2 w.heap.size ?a3 28 (bare8 cs) (0, 0) _ HB.out Tryz.underlying28 ?a4 HI.out.1 ?_); (case a1 => rfl); (case a2 => rfl); (case a3 => rfl); (case a4 => rfl); refine Stop.out ?_)
 unfold Stop
 go_wp2_with ((with_reducible refine wpList_store_row (o := ⟨none, _, _, _, _, _⟩) ?b1 28 (.tmp 2) (.tmp 48) ?b2 (w.heap.size + 1) (bare8 cs) ?b3 ?b4 28 zeroCmd HZ2.out HI.out.1 ?b5 HI.out.2 ?_); (case b1 => rfl); (case b2 => rfl); (case b3 => rfl); (case b4 => rfl); (case b5 => exact HSZ.out.symm); have HP9 := Lib.hid (setRow_heap wc (w.heap.size + 1) _ (bare8 cs) _ _ HZ2.out); have HB9 := Lib.hid (below_setRow HW2.out (g := w.heap.size + 1) (by omega) (bare8 cs)); refine Stop.out ?_)
 unfold Stop
 go_wp2
 exact bodyPost_ret (v := .agg (bare8 cs)) (results_cell_row Tryz.results22 _ _ (w.heap.size + 1) 28 (bare8 cs) (0, 0) _ rfl HP9.out Tryz.underlying28 rfl HI.out.1) rfl ⟨rfl, HB9.out⟩
end Go.Proofs.YtmjjenemokojjaaGreat

namespace Go.Proofs.YtmjjenemokojjaaGreat
open Go.ChangeShapes Go.WideShapes Go.ChangeAt Go.RowKit Go.Joins Go.Deep
set_option maxRecDepth 100000
theorem factLineV : (Tryz.prog.info? 30).map (fun i => (i.zero, i.size, i.bytes)) = some (some (.agg #[.int .i64 0, .int .i64 0, .string ⟨#[]⟩, .string ⟨#[]⟩, .string ⟨#[]⟩, .int .i64 0, .bool false, .int .i64 0, .bool false]), 9, 96) := by kernel_rfl
/-- a row of the call's own -/
def OwnLineV (w : World) (base : Nat) (v : Value) (L : List LineV) : Prop := w.ownsRow base 30 9 v L.length (flatsLineV L)
theorem OwnLineV.on {w W : World} {B : Nat} {v : Value} {L : List LineV} (h : OwnLineV w B v L) (hb : Below w.heap.size w W) : OwnLineV W B v L :=
 World.ownsRow.kept (row := none) h ⟨hb.os, hb.tape, hb.output, hb.size, fun k hk _ => hb.block k hk⟩ (by
  rcases h.2 with ⟨rfl, _⟩ | ⟨g, c, cur, rfl, _⟩
  · exact .inl rfl
  · exact .inr (by simp [Value.ownBlock]))
theorem OwnLineV.less {w : World} {B B' : Nat} {v : Value} {L : List LineV} (h : OwnLineV w B v L) (hB : B' ≤ B) : OwnLineV w B' v L := by
 refine ⟨h.1, ?_⟩
 rcases h.2 with h | ⟨g, c, cur, h1, h2, h3⟩
 · exact .inl h
 · exact .inr ⟨g, c, cur, h1, Nat.le_trans hB h2, h3⟩
theorem OwnLineV.form {w : World} {B : Nat} {v : Value} {L : List LineV} (h : OwnLineV w B v L) : ∃ A c, v = .slice A L.length c ∧ RowLineV w A L ∧ (A = none → L = []) := by
 rcases h.2 with ⟨rfl, h0⟩ | ⟨g, c, cur, rfl, hB, hh, hc, hm, hcs, ht⟩
 · have : L = [] := List.eq_nil_of_length_eq_zero h0
   subst this
   exact ⟨none, 0, rfl, RowLineV.nil, fun _ => rfl⟩
 · refine ⟨_, c, rfl, fun hn => ⟨g, 0, rfl, heapLt hh, fun j v hv => ?_⟩, fun e => by cases e⟩
   have := World.ownsRow.cells (g := g) h rfl j v hv
   rwa [Addr.add_mid] at this
theorem RowLineV.range {w : World} {a : Addr} {L : List LineV} (hr : RowLineV w (some a) L) : ∀ j u, (flatsLineV L)[j]? = some u → w.cell? (a.add j) = some u := fun j u hu => by
 have hne : L ≠ [] := by
  intro e; subst e; simp [flatsLineV] at hu
 obtain ⟨b, o, e, _, hra⟩ := hr hne
 injection e with e
 subst e
 rw [Addr.add_mid]
 exact hra j u hu
/-- to a row that is full -/
theorem appendLineV_full (w : World) (A : Option Addr) (L M : List LineV) (hr : RowLineV w A L) (hA : A = none → L = []) (a : Addr) (c : Nat) (hm : RowLineV w (some a) M) (hM : M ≠ []) (hl : (L.length + M.length) * 96 ≤ 140737488355328) :
 ∃ v' w', (Builtin.append_ #[24, 24] 24 #[.slice A L.length L.length, .slice (some a) M.length c]).run Tryz.prog w = .ok v' w' ∧ OwnLineV w' w.heap.size v' (L ++ M) ∧ w.grownBy w' none := by
 obtain ⟨i0, hi, hz0, hz1, hz2⟩ := info_parts factLineV
 have hMl : 0 < M.length := List.length_pos_iff.2 hM
 have e : OwnLineV = fun w base v L => w.ownsRow base 30 9 v L.length (flatsLineV L) := rfl
 rw [e]
 simp only [flatsLineV_append, List.length_append]
 cases A with
 | none =>
   obtain rfl := hA rfl
   obtain ⟨v', w', h1, h2, h3, _⟩ := run_append_own (P := Tryz.prog) w w.heap.size 24 24 30 i0 _ 9 96 Tryz.underlying24 hi hz0 hz1 hz2 rfl (by decide) (.slice none 0 0) 0 [] (World.ownsRow_nil w _ _ 9) a M.length c (flatsLineV M) (by rw [flatsLineV_len]; omega) hm.range (flatsLineV_one M) (by unfold maxLen; omega) (by simpa using hl) (Nat.le_refl _)
   exact ⟨v', w', h1, h2, h3⟩
 | some b =>
   obtain ⟨v', w', h1, h2, h3⟩ := run_append_arg_grows (P := Tryz.prog) w 24 24 30 i0 _ 9 96 Tryz.underlying24 hi hz0 hz1 hz2 rfl (by decide) b L.length L.length (flatsLineV L) (by rw [flatsLineV_len]; omega) hr.range a M.length c (flatsLineV M) (by rw [flatsLineV_len]; omega) hm.range (by omega) (by unfold maxLen; omega) hl
   exact ⟨v', w', h1, h2, h3⟩
theorem wp_appendLineV_full (w : World) {o : Oper} {a : Act} {K : Act → World → Prop} {Q : Exit → Act → World → Prop} (s x : Operand)
 (ho : o.op = .call { callee := .builtin .append, args := #[s, x], argTypes := #[24, 24] }) (hty : o.type = 24) (A : Option Addr) (L : List LineV) (hs : a.eval s = .slice A L.length L.length) (hr : RowLineV w A L) (hA : A = none → L = [])
 (p : Addr) (n c : Nat) (M : List LineV) (hx : a.eval x = .slice (some p) n c) (hn : M.length = n) (hm : RowLineV w (some p) M) (hM : M ≠ []) (hl : (L.length + M.length) * 96 ≤ 140737488355328)
 (h : ∀ A' c' w', RowLineV w' A' (L ++ M) → Below w.heap.size w w' → K (a.put o.dst (.slice A' (L.length + n) c')) w') : o.wp Tryz.prog a w K Q := by
 subst hn
 obtain ⟨v', w', hrun, h2, h3⟩ := appendLineV_full w A L M hr hA p c hm hM hl
 obtain ⟨A', c', rfl, hr', _⟩ := h2.form
 rw [List.length_append] at hrun
 have hb : Below w.heap.size w w' := (Below.refl _ _).grown h3 (Nat.le_refl _) (by simp)
 unfold Oper.wp execOp
 simp only [ho, hty, resolve, invoke, builtin, Sem.run_bind, Sem.run_pure, Result.andThen_ok, List.map_toArray, List.map_cons, List.map_nil, hs, hx, hrun]
 exact h A' c' w' hr' hb
end Go.Proofs.YtmjjenemokojjaaGreat

namespace Go.Proofs.YtmjjenemokojjaaGreat
open Go.RowKit Go.ChangeShapes
set_option maxRecDepth 100000
set_option linter.unusedSimpArgs false
set_option linter.unusedVariables false

noncomputable def numV (s : Bool × Text) : Int := match numP s.2 with | some p => p.1 | none => 0
noncomputable def numS (s : Bool × Text) : Bool × Text := match numP s.2 with | some p => (s.1, p.2) | none => (true, [])
noncomputable def textV (s : Bool × Text) : ByteArray := match textP s.2 with | some p => p.1 | none => ⟨#[]⟩
noncomputable def textS (s : Bool × Text) : Bool × Text := match textP s.2 with | some p => (s.1, p.2) | none => (true, [])
noncomputable def flagV (s : Bool × Text) : Bool := match flagP s.2 with | some p => p.1 | none => false
noncomputable def flagS (s : Bool × Text) : Bool × Text := match flagP s.2 with | some p => (s.1, p.2) | none => (true, [])
/-- a reader at g, which was made ahead of the worlds that are looked at -/
def RS (w0 w : World) (g : Nat) (s : Bool × Text) : Prop := Rdr w g s.1 s.2 ∧ Only w0 w g ∧ g < w0.heap.size
theorem RS.start {w : World} {g : Nat} {s : Bool × Text} (h : Rdr w g s.1 s.2) : RS w w g s := by
 obtain ⟨A, c, hh, hr⟩ := h
 exact ⟨⟨A, c, hh, hr⟩, Only.refl _ _, heapLt hh⟩
theorem Rdr.on {w w1 : World} {g : Nat} {b : Bool} {T : Text} (h : Rdr w g b T) (hb : Below w.heap.size w w1) : Rdr w1 g b T := by
 obtain ⟨A, c, hh, h1, h2, h3, h4, h5⟩ := h
 exact ⟨A, c, heap_on hb hh, h1, h2, h3.below hb, h4, h5⟩
theorem RS.on {w0 w w1 : World} {g : Nat} {s : Bool × Text} (h : RS w0 w g s) (hb : Below w.heap.size w w1) : RS w0 w1 g s := ⟨h.1.on hb, h.2.1.trans (Only.of_below hb), h.2.2⟩
theorem RS.drew {w0 w : World} {g : Nat} {s : Bool × Text} (h : RS w0 w g s) : RS w0 w.drew g s := h.on ((Below.refl _ _).drew)
theorem RS.below {w0 w : World} {g : Nat} {s : Bool × Text} (h : RS w0 w g s) {B : Nat} (hB : B ≤ g) : Below B w0 w := h.2.1.below hB (Nat.le_of_lt (Nat.lt_of_le_of_lt hB h.2.2))
theorem RS.num {w0 w : World} {g : Nat} {s : Bool × Text} (h : RS w0 w g s) :
 Calls Tryz.prog 73 #[.pointer (some ⟨g, 0, none⟩)] w fun e w1 => e = .returned (.int .i64 (numV s)) ∧ RS w0 w1 g (numS s) ∧ Only w w1 g := by
 refine (code_rnum w g s.1 s.2 h.1).mono fun e w1 hg => ?_
 unfold Got at hg
 unfold numV numS
 cases hp : numP s.2 with
 | none => rw [hp] at hg; exact ⟨hg.1, ⟨hg.2.1, h.2.1.trans hg.2.2, h.2.2⟩, hg.2.2⟩
 | some p => rw [hp] at hg; exact ⟨hg.1, ⟨hg.2.1, h.2.1.trans hg.2.2, h.2.2⟩, hg.2.2⟩
theorem RS.text {w0 w : World} {g : Nat} {s : Bool × Text} (h : RS w0 w g s) :
 Calls Tryz.prog 74 #[.pointer (some ⟨g, 0, none⟩)] w fun e w1 => e = .returned (.string (textV s)) ∧ RS w0 w1 g (textS s) ∧ Only w w1 g := by
 refine (code_rtext w g s.1 s.2 h.1).mono fun e w1 hg => ?_
 unfold Got at hg
 unfold textV textS
 cases hp : textP s.2 with
 | none => rw [hp] at hg; exact ⟨hg.1, ⟨hg.2.1, h.2.1.trans hg.2.2, h.2.2⟩, hg.2.2⟩
 | some p => rw [hp] at hg; exact ⟨hg.1, ⟨hg.2.1, h.2.1.trans hg.2.2, h.2.2⟩, hg.2.2⟩
theorem RS.flag {w0 w : World} {g : Nat} {s : Bool × Text} (h : RS w0 w g s) :
 Calls Tryz.prog 101 #[.pointer (some ⟨g, 0, none⟩)] w fun e w1 => e = .returned (.bool (flagV s)) ∧ RS w0 w1 g (flagS s) ∧ Only w w1 g := by
 refine (code_rflag w g s.1 s.2 h.1).mono fun e w1 hg => ?_
 unfold Got at hg
 unfold flagV flagS
 cases hp : flagP s.2 with
 | none => rw [hp] at hg; exact ⟨hg.1, ⟨hg.2.1, h.2.1.trans hg.2.2, h.2.2⟩, hg.2.2⟩
 | some p => rw [hp] at hg; exact ⟨hg.1, ⟨hg.2.1, h.2.1.trans hg.2.2, h.2.2⟩, hg.2.2⟩
theorem appendLineV_own (w : World) (base : Nat) (v : Value) (L M : List LineV) (hown : OwnLineV w base v L) (a : Addr) (c : Nat) (hm : RowLineV w (some a) M) (hM : M ≠ []) (hl : (L.length + M.length) * 96 ≤ 140737488355328) (hb : base ≤ w.heap.size) :
 ∃ v' w', (Builtin.append_ #[24, 24] 24 #[v, .slice (some a) M.length c]).run Tryz.prog w = .ok v' w' ∧ OwnLineV w' base v' (L ++ M) ∧ w.grownBy w' v.ownBlock := by
 obtain ⟨i0, hi, hz0, hz1, hz2⟩ := info_parts factLineV
 have e : OwnLineV = fun w base v L => w.ownsRow base 30 9 v L.length (flatsLineV L) := rfl
 rw [e] at hown ⊢
 simp only [flatsLineV_append, List.length_append] at hown ⊢
 obtain ⟨v', w', h1, h2, h3, _⟩ := run_append_own (P := Tryz.prog) w base 24 24 30 i0 _ 9 96 Tryz.underlying24 hi hz0 hz1 hz2 rfl (by decide) v L.length (flatsLineV L) hown a M.length c (flatsLineV M) (by rw [flatsLineV_len]; omega) hm.range (flatsLineV_one M) (by unfold maxLen; omega) hl hb
 exact ⟨v', w', h1, h2, h3⟩
theorem OwnLineV.bounds {w : World} {B : Nat} {v : Value} {L : List LineV} (h : OwnLineV w B v L) : ∃ A c, v = .slice A L.length c ∧ RowLineV w A L ∧ (A = none → L = [] ∧ c = 0) ∧ L.length ≤ c ∧ c ≤ maxLen := by
 rcases h.2 with ⟨rfl, h0⟩ | ⟨g, c, cur, rfl, hB, hh, hc, hm, hcs, ht⟩
 · have : L = [] := List.eq_nil_of_length_eq_zero h0
   subst this
   exact ⟨none, 0, rfl, RowLineV.nil, fun _ => ⟨rfl, rfl⟩, Nat.le_refl _, Nat.zero_le _⟩
 · refine ⟨_, c, rfl, fun hn => ⟨g, 0, rfl, heapLt hh, fun j v hv => ?_⟩, (fun e => by cases e), hc, hm⟩
   have := World.ownsRow.cells (g := g) h rfl j v hv
   rwa [Addr.add_mid] at this
theorem OwnLineV.block {w : World} {B : Nat} {v : Value} {L : List LineV} (h : OwnLineV w B v L) : ∀ k, v.ownBlock = some k → B ≤ k ∧ k < w.heap.size := by
 intro k hk
 rcases h.2 with ⟨rfl, h0⟩ | ⟨g, c, cur, rfl, hB, hh, _⟩
 · cases hk
 · injection hk with hk
   subst hk
   exact ⟨hB, heapLt hh⟩
theorem OwnLineV.only {w w1 : World} {B g : Nat} {v : Value} {L : List LineV} (h : OwnLineV w B v L) (ho : Only w w1 g) (hg : g < B) : OwnLineV w1 B v L :=
 World.ownsRow.kept (row := some g) h ⟨ho.os, ho.tape, ho.output, ho.size, fun k hk hn => ho.block k hk (fun e => hn (by rw [e]))⟩ (by
  refine .inr fun e => ?_
  have := (h.block g e).1
  omega)
/-- a reader at g, and beside it a document's box at b, whose lines are the call's own -/
def docC (hd : ByteArray × Bool × Bool × ByteArray × Int × ByteArray × ByteArray × ByteArray) (v : Value) : Array Value := #[.string hd.1, .bool hd.2.1, .bool hd.2.2.1, .string hd.2.2.2.1, .int .i64 hd.2.2.2.2.1, .string hd.2.2.2.2.2.1, .string hd.2.2.2.2.2.2.1, .string hd.2.2.2.2.2.2.2, v]
structure RL (w0 w : World) (g : Nat) (s : Bool × Text) (b : Nat) (hd : ByteArray × Bool × Bool × ByteArray × Int × ByteArray × ByteArray × ByteArray) (L : List LineV) (v : Value) : Prop where
 rs : RS w0 w g s
 box : w.heap[b]? = some (.cells (docC hd v) 26 (0, 0))
 far : w0.heap.size ≤ b
 own : OwnLineV w w0.heap.size v L
 apart : v.ownBlock ≠ some b
theorem RL.on {w0 w w1 : World} {g b : Nat} {s hd L v} (h : RL w0 w g s b hd L v) (hb : Below w.heap.size w w1) : RL w0 w1 g s b hd L v :=
 ⟨h.rs.on hb, heap_on hb h.box, h.far, h.own.on hb, h.apart⟩
theorem RL.drew {w0 w : World} {g b : Nat} {s hd L v} (h : RL w0 w g s b hd L v) : RL w0 w.drew g s b hd L v := h.on ((Below.refl _ _).drew)
theorem RL.read {w0 w w1 : World} {g b : Nat} {s s1 hd L v} (h : RL w0 w g s b hd L v) (hr : RS w0 w1 g s1) (ho : Only w w1 g) : RL w0 w1 g s1 b hd L v :=
 ⟨hr, (ho.block b (heapLt h.box) (by have := h.rs.2.2; have := h.far; omega)).trans h.box, h.far, h.own.only ho h.rs.2.2, h.apart⟩
theorem RL.num {w0 w : World} {g b : Nat} {s hd L v} (h : RL w0 w g s b hd L v) :
 Calls Tryz.prog 73 #[.pointer (some ⟨g, 0, none⟩)] w fun e w1 => e = .returned (.int .i64 (numV s)) ∧ RL w0 w1 g (numS s) b hd L v :=
 h.rs.num.mono fun e w1 hg => ⟨hg.1, h.read hg.2.1 hg.2.2⟩
theorem RL.text {w0 w : World} {g b : Nat} {s hd L v} (h : RL w0 w g s b hd L v) :
 Calls Tryz.prog 74 #[.pointer (some ⟨g, 0, none⟩)] w fun e w1 => e = .returned (.string (textV s)) ∧ RL w0 w1 g (textS s) b hd L v :=
 h.rs.text.mono fun e w1 hg => ⟨hg.1, h.read hg.2.1 hg.2.2⟩
theorem RL.flag {w0 w : World} {g b : Nat} {s hd L v} (h : RL w0 w g s b hd L v) :
 Calls Tryz.prog 101 #[.pointer (some ⟨g, 0, none⟩)] w fun e w1 => e = .returned (.bool (flagV s)) ∧ RL w0 w1 g (flagS s) b hd L v :=
 h.rs.flag.mono fun e w1 hg => ⟨hg.1, h.read hg.2.1 hg.2.2⟩
/-- an append, and what it tells stored -/
theorem RL.app {w0 w w1 : World} {g b : Nat} {s hd L v v1} {M : List LineV} (h : RL w0 w g s b hd L v) (ho : OwnLineV w1 w0.heap.size v1 (L ++ M)) (hg : w.grownBy w1 v.ownBlock) (hl : v1.ownBlock ≠ some b) : RL w0 (w1.setCell ⟨b, 8, none⟩ v1) g s b hd (L ++ M) v1 := by
 have hbl := heapLt h.box
 have hgl := h.rs.2.2
 have hgb : g ≠ b := by have := h.far; omega
 have hfar := h.far
 have hng : ∀ k, k < w0.heap.size → some k ≠ v.ownBlock := fun k hk e => by
  have := (h.own.block k e.symm).1
  omega
 have hRd : Rdr w1 g s.1 s.2 := by
  obtain ⟨A, c, hh, h1, h2, h3, h4, h5⟩ := h.rs.1
  refine ⟨A, c, (hg.block g (heapLt hh) (hng g hgl)).trans hh, h1, h2, fun hn => ?_, h4, h5⟩
  obtain ⟨a, e, hb, hc⟩ := h3 hn
  have ha := h5 a e
  refine ⟨a, e, Nat.lt_of_lt_of_le hb hg.size, fun i hi => ?_⟩
  have hx : (a.add i).block = a.block := add_block a i
  rw [World.cell?_of_block (w := w) (by rw [hx]; exact hg.block _ hb (hng _ (Nat.lt_trans ha hgl)))]
  exact hc i hi
 have hO : Only w0 w1 g := ⟨hg.os.trans h.rs.2.1.os, hg.tape.trans h.rs.2.1.tape, hg.output.trans h.rs.2.1.output, Nat.le_trans h.rs.2.1.size hg.size, fun k hk hn => (hg.block k (Nat.lt_of_lt_of_le hk h.rs.2.1.size) (hng k hk)).trans (h.rs.2.1.block k hk hn)⟩
 have hBox : w1.heap[b]? = some (.cells (docC hd v) 26 (0, 0)) := (hg.block b hbl (fun e => h.apart e.symm)).trans h.box
 have hS : Only w1 (w1.setCell ⟨b, 8, none⟩ v1) b := Only.set w1 b 8 v1
 refine ⟨⟨?_, ⟨hS.os.trans hO.os, hS.tape.trans hO.tape, hS.output.trans hO.output, Nat.le_trans hO.size hS.size, fun k hk hn => (hS.block k (Nat.lt_of_lt_of_le hk hO.size) (by omega)).trans (hO.block k hk hn)⟩, hgl⟩, ?_, h.far, ?_, hl⟩
 · obtain ⟨A, c, hh, h1, h2, h3, h4, h5⟩ := hRd
   refine ⟨A, c, (hS.block g (heapLt hh) hgb).trans hh, h1, h2, h3.only hS (fun a e => ?_), h4, h5⟩
   have := h5 a e
   omega
 · rw [heap_setCell_same w1 b 8 _ _ v1 hBox]; rfl
 · exact World.ownsRow.kept (row := some b) ho ⟨hS.os, hS.tape, hS.output, hS.size, fun k hk hn => hS.block k hk (fun e => hn (by rw [e]))⟩ (.inr hl)
theorem wp_appendLineV_rl (w0 w : World) {g b : Nat} {s hd L} {v : Value} (hR : RL w0 w g s b hd L v) {o : Oper} {a : Act} {K : Act → World → Prop} {Q : Exit → Act → World → Prop} (s0 x : Operand)
 (ho : o.op = .call { callee := .builtin .append, args := #[s0, x], argTypes := #[24, 24] }) (hty : o.type = 24) (hs : a.eval s0 = v)
 (p : Addr) (n c : Nat) (M : List LineV) (hx : a.eval x = .slice (some p) n c) (hn : M.length = n) (hm : RowLineV w (some p) M) (hM : M ≠ []) (hl : (L.length + M.length) * 96 ≤ 140737488355328) (k : Nat) (hk : L.length = k)
 (h : ∀ A1 c1 w1, RL w0 (w1.setCell ⟨b, 8, none⟩ (.slice A1 ((k + n : Nat) : Nat) c1)) g s b hd (L ++ M) (.slice A1 ((k + n : Nat) : Nat) c1) → w1.heap[b]? = some (.cells (docC hd v) 26 (0, 0)) → K (a.put o.dst (.slice A1 ((k + n : Nat) : Nat) c1)) w1) : o.wp Tryz.prog a w K Q := by
 subst hn
 subst hk
 obtain ⟨v', w', hrun, h2, h3⟩ := appendLineV_own w w0.heap.size v L M hR.own p c hm hM hl (hR.rs.2.1.size)
 have hap : v'.ownBlock ≠ some b := by
  intro e
  rcases h2.2 with ⟨rfl, h0⟩ | ⟨g1, c1, cur, rfl, hB, hh, _⟩
  · cases e
  · injection e with e
    have hbx := (h3.block b (heapLt hR.box) (fun e => hR.apart e.symm)).trans hR.box
    have e2 : g1 = b := e
    subst e2
    rw [hbx] at hh
    injection hh with hh
    injection hh with _ ht _
    exact absurd ht (by decide)
 have hrl := hR.app h2 h3 hap
 obtain ⟨A1, c1, e1, _⟩ := h2.bounds
 rw [List.length_append] at e1
 subst e1
 have hK := h A1 c1 w' hrl ((h3.block b (heapLt hR.box) (fun e => hR.apart e.symm)).trans hR.box)
 unfold Oper.wp execOp
 simp only [ho, hty, resolve, invoke, builtin, Sem.run_bind, Sem.run_pure, Result.andThen_ok, List.map_toArray, List.map_cons, List.map_nil, hs, hx, hrun]
 exact hK
end Go.Proofs.YtmjjenemokojjaaGreat

namespace Go.Proofs.YtmjjenemokojjaaGreat
open Go.RowKit
set_option maxRecDepth 100000
set_option linter.unusedSimpArgs false
set_option linter.unusedVariables false

theorem below_drew (w : World) : Below w.heap.size w w.drew := (Below.refl _ w).drew
theorem exec_load_row {P : Program} {o : Oper} {ev : Operand → Value} {w : World} (ty : TypeId) (x : Operand) (ho : o.op = .load ty x)
 (g : Nat) (hx : ev x = .pointer (some ⟨g, 0, none⟩)) (t : TypeId) (cs : Array Value) (fr : Nat × Nat) (d : TypeDesc) (hg : w.heap[g]? = some (.cells cs t fr))
 (hu : P.underlying ty = some d) (hd : (match d with | .struct _ | .array _ _ => true | _ => false) = true) (hi : (P.info? ty).map (·.size) = some cs.size) :
 (execOp ev o).run P w = .ok (.value (.agg cs)) w := by
 unfold execOp
 simp only [ho, hx, Instr.loadAt, Instr.sureAddr, Sem.run_bind, Sem.run_pure, Result.andThen_ok, run_loadVar_row w g t ty cs fr d hg hu hd hi]
set_option maxHeartbeats 2000000 in
theorem good_yes (cs : Array Value) (k : Int) (u : Array Value) (s : Bool) (w : World) (hs : cs.size = 22) (hk : cs[0]? = some (.int .i64 k)) (HA : Hid (∀ W, Below w.heap.size w W → Calls Tryz.prog 20 #[.agg cs] W fun e w1 => e = .returned (.bool true) ∧ Below W.heap.size W w1)) (HU : Hid (∀ W, Calls Tryz.prog 22 #[.agg cs] W fun e w1 => e = .returned (.agg u) ∧ Below W.heap.size W w1)) (HSm : Hid (∀ W, Below w.heap.size w W → Calls Tryz.prog 21 #[.agg u, .agg #[.int .i64 k, .string ⟨#[]⟩, .string ⟨#[]⟩, .int .i64 0, .int .i64 0, .int .i64 0, .int .i64 0, .int .i64 0, .int .i64 0, .int .i64 0, .int .i64 0, .int .i64 0, .int .i64 0, .string ⟨#[]⟩, .bool false, .bool false, .string ⟨#[]⟩, .int .i64 0, .string ⟨#[]⟩, .string ⟨#[]⟩, .string ⟨#[]⟩, .slice none 0 0]] W fun e w1 => e = .returned (.bool s) ∧ Below W.heap.size W w1)) : Calls Tryz.prog 8 #[.agg cs] w fun e w1 => e = .returned (.bool s) ∧ Below w.heap.size w w1 := by
 have HXd := Lib.hid (heap_on (below_drew _) (heap_alloc_new w (.cells cs 28)))
 have HWd := Lib.hid (below_then (below_alloc w (.cells cs 28)) (below_drew _))
 have HI := Lib.hid (cmd_info hs)
 have HK := Lib.hid hk
 clear hs hk
 go_enter Tryz.func8, Tryz.ntmps8
 go_wp2
 refine wp_region_held_drew (S := fun V => V.heap[w.heap.size]? = some (.cells cs 28 (0, 0))) (by kernel_rfl) HXd.out ?_
 intro hHeld
 clear HXd
 generalize World.drew _ = wd at HWd hHeld ⊢
 (refine takeH (i := 0) (v := .agg cs) rfl (by kernel_rfl) (by kernel_rfl) (by kernel_rfl) (fun _ _ _ h => h) (Or.inl ⟨by rfl, fun wS hSw => exec_load_row 28 (.tmp 1) rfl w.heap.size rfl 28 cs (0, 0) _ hSw Tryz.underlying28 rfl HI.out⟩) (by assumption) ?_; (try simp only [Act.put, pA, pB, pC]))
 refine aloneH (i := 1) rfl (by kernel_rfl) (fun K hK => ?_)
 rw [if_pos (by rfl)]
 go_simp; ((refine (HA.out _ HWd.out).mono ?_); (rintro e w1 ⟨rfl, hb⟩); have HB1 := Lib.hid hb; clear hb; (try go_simp))
 refine hK.out _ _ (heap_on HB1.out hHeld) ?_
 clear hK K hHeld; intro hHeld; (try simp only [Act.put, pA, pB, pC])
 (refine takeP (i := 2) ?_ rfl (.inl ⟨by rfl, ?_⟩) ?_; rotate_left; (focus ((intro wS hSw); (try dsimp only at hSw); have s0 := (cell_of_row wS w.heap.size 0 _ _ _ hSw).trans HK.out; go_simp; (try with_reducible rfl); done)); (try simp only [Act.put, pA, pB, pC]))
 (refine takeH (i := 3) (v := .agg cs) rfl (by kernel_rfl) (by kernel_rfl) (by kernel_rfl) (fun _ _ _ h => h) (Or.inl ⟨by rfl, fun wS hSw => exec_load_row 28 (.tmp 1) rfl w.heap.size rfl 28 cs (0, 0) _ hSw Tryz.underlying28 rfl HI.out⟩) (by assumption) ?_; (try simp only [Act.put, pA, pB, pC]))
 (refine takeP (i := 5) ?_ rfl (.inl ⟨by rfl, ?_⟩) ?_; rotate_left; (focus ((intro wS hSw); (try dsimp only at hSw); have s0 := (cell_of_row wS w.heap.size 0 _ _ _ hSw).trans HK.out; go_simp; (try with_reducible rfl); done)); (try simp only [Act.put, pA, pB, pC]))
 (refine takeP (i := 6) ?_ rfl (.inl ⟨by rfl, ?_⟩) ?_; rotate_left; (focus ((intro wS hSw); (try dsimp only at hSw); have s0 := (cell_of_row wS w.heap.size 0 _ _ _ hSw).trans HK.out; go_simp; (try with_reducible rfl); done)); (try simp only [Act.put, pA, pB, pC]))
 (refine takeP (i := 7) ?_ rfl (.inl ⟨by rfl, ?_⟩) ?_; rotate_left; (focus ((intro wS hSw); (try dsimp only at hSw); have s0 := (cell_of_row wS w.heap.size 0 _ _ _ hSw).trans HK.out; go_simp; (try with_reducible rfl); done)); (try simp only [Act.put, pA, pB, pC]))
 refine aloneH (i := 4) rfl (by kernel_rfl) (fun K hK => ?_)
 rw [if_pos (by rfl)]
 go_simp; ((refine (HU.out _).mono ?_); (rintro e w2 ⟨rfl, hb⟩); have HB2 := Lib.hid hb; clear hb; (try go_simp))
 refine hK.out _ _ (heap_on HB2.out hHeld) ?_
 clear hK K hHeld; intro hHeld; (try simp only [Act.put, pA, pB, pC])
 refine aloneH (i := 8) rfl (by kernel_rfl) (fun K hK => ?_)
 rw [if_pos (by rfl)]
 go_simp; ((refine (HSm.out _ (below_then HWd.out (below_then HB1.out HB2.out))).mono ?_); (rintro e w3 ⟨rfl, hb⟩); have HB3 := Lib.hid hb; clear hb; (try go_simp))
 refine hK.out _ _ (heap_on HB3.out hHeld) ?_
 clear hK K hHeld; intro hHeld; (try simp only [Act.put, pA, pB, pC])
 (refine takeP (i := 9) ?_ rfl (.inl ⟨by rfl, ?_⟩) ?_; rotate_left; (focus ((intro wS hSw); (try dsimp only at hSw); have s0 := (cell_of_row wS w.heap.size 0 _ _ _ hSw).trans HK.out; go_simp; (try with_reducible rfl); done)); (try simp only [Act.put, pA, pB, pC]))
 (refine takeP (i := 10) ?_ rfl (.inl ⟨by rfl, ?_⟩) ?_; rotate_left; (focus ((intro wS hSw); (try dsimp only at hSw); have s0 := (cell_of_row wS w.heap.size 0 _ _ _ hSw).trans HK.out; go_simp; (try with_reducible rfl); done)); (try simp only [Act.put, pA, pB, pC]))
 refine wpAnyH_done (by kernel_rfl) ?_ _
 clear hHeld
 go_wp2
 go_ret
 exact ⟨rfl, below_then HWd.out (below_then (below_then HB1.out HB2.out) HB3.out)⟩
set_option maxHeartbeats 2000000 in
theorem good_no (cs : Array Value) (k : Int) (w : World) (hs : cs.size = 22) (hk : cs[0]? = some (.int .i64 k)) (HA : Hid (∀ W, Below w.heap.size w W → Calls Tryz.prog 20 #[.agg cs] W fun e w1 => e = .returned (.bool false) ∧ Below W.heap.size W w1)) : Calls Tryz.prog 8 #[.agg cs] w fun e w1 => e = .returned (.bool false) ∧ Below w.heap.size w w1 := by
 have HXd := Lib.hid (heap_on (below_drew _) (heap_alloc_new w (.cells cs 28)))
 have HWd := Lib.hid (below_then (below_alloc w (.cells cs 28)) (below_drew _))
 have HI := Lib.hid (cmd_info hs)
 have HK := Lib.hid hk
 clear hs hk
 go_enter Tryz.func8, Tryz.ntmps8
 go_wp2
 refine wp_region_held_drew (S := fun V => V.heap[w.heap.size]? = some (.cells cs 28 (0, 0))) (by kernel_rfl) HXd.out ?_
 intro hHeld
 clear HXd
 generalize World.drew _ = wd at HWd hHeld ⊢
 (refine takeH (i := 0) (v := .agg cs) rfl (by kernel_rfl) (by kernel_rfl) (by kernel_rfl) (fun _ _ _ h => h) (Or.inl ⟨by rfl, fun wS hSw => exec_load_row 28 (.tmp 1) rfl w.heap.size rfl 28 cs (0, 0) _ hSw Tryz.underlying28 rfl HI.out⟩) (by assumption) ?_; (try simp only [Act.put, pA, pB, pC]))
 refine aloneH (i := 1) rfl (by kernel_rfl) (fun K hK => ?_)
 rw [if_pos (by rfl)]
 go_simp; ((refine (HA.out _ HWd.out).mono ?_); (rintro e w1 ⟨rfl, hb⟩); have HB1 := Lib.hid hb; clear hb; (try go_simp))
 refine hK.out _ _ (heap_on HB1.out hHeld) ?_
 clear hK K hHeld; intro hHeld; (try simp only [Act.put, pA, pB, pC])
 (refine takeP (i := 2) ?_ rfl (.inl ⟨by rfl, ?_⟩) ?_; rotate_left; (focus ((intro wS hSw); (try dsimp only at hSw); have s0 := (cell_of_row wS w.heap.size 0 _ _ _ hSw).trans HK.out; go_simp; (try with_reducible rfl); done)); (try simp only [Act.put, pA, pB, pC]))
 (refine takeH (i := 3) (v := undef) rfl (by kernel_rfl) (by kernel_rfl) (by kernel_rfl) (fun _ _ _ h => h) (Or.inr ⟨by rfl, rfl⟩) (by assumption) ?_; (try simp only [Act.put, pA, pB, pC]))
 (refine takeH (i := 4) (v := undef) rfl (by kernel_rfl) (by kernel_rfl) (by kernel_rfl) (fun _ _ _ h => h) (Or.inr ⟨by rfl, rfl⟩) (by assumption) ?_; (try simp only [Act.put, pA, pB, pC]))
 (refine takeH (i := 5) (v := undef) rfl (by kernel_rfl) (by kernel_rfl) (by kernel_rfl) (fun _ _ _ h => h) (Or.inr ⟨by rfl, rfl⟩) (by assumption) ?_; (try simp only [Act.put, pA, pB, pC]))
 (refine takeH (i := 6) (v := undef) rfl (by kernel_rfl) (by kernel_rfl) (by kernel_rfl) (fun _ _ _ h => h) (Or.inr ⟨by rfl, rfl⟩) (by assumption) ?_; (try simp only [Act.put, pA, pB, pC]))
 (refine takeH (i := 7) (v := undef) rfl (by kernel_rfl) (by kernel_rfl) (by kernel_rfl) (fun _ _ _ h => h) (Or.inr ⟨by rfl, rfl⟩) (by assumption) ?_; (try simp only [Act.put, pA, pB, pC]))
 (refine takeH (i := 8) (v := undef) rfl (by kernel_rfl) (by kernel_rfl) (by kernel_rfl) (fun _ _ _ h => h) (Or.inr ⟨by rfl, rfl⟩) (by assumption) ?_; (try simp only [Act.put, pA, pB, pC]))
 (refine takeP (i := 9) ?_ rfl (.inl ⟨by rfl, ?_⟩) ?_; rotate_left; (focus ((intro wS hSw); (try dsimp only at hSw); have s0 := (cell_of_row wS w.heap.size 0 _ _ _ hSw).trans HK.out; go_simp; (try with_reducible rfl); done)); (try simp only [Act.put, pA, pB, pC]))
 (refine takeP (i := 10) ?_ rfl (.inl ⟨by rfl, ?_⟩) ?_; rotate_left; (focus ((intro wS hSw); (try dsimp only at hSw); have s0 := (cell_of_row wS w.heap.size 0 _ _ _ hSw).trans HK.out; go_simp; (try with_reducible rfl); done)); (try simp only [Act.put, pA, pB, pC]))
 refine wpAnyH_done (by kernel_rfl) ?_ _
 clear hHeld
 go_wp2
 go_ret
 exact ⟨rfl, below_then HWd.out HB1.out⟩
end Go.Proofs.YtmjjenemokojjaaGreat
