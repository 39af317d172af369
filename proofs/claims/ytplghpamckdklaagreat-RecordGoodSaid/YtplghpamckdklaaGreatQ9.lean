/- Commands without the fields that their kind names: the program's. Commands: what may be: the program's. How many bits a number has: the library's own function, at this program. -/
import Derived.Test.YtplghpamckdklaaGreatQ8
import Derived.WalkMore
import Derived.Deep.Cut
import Derived.Deep.DeepCutAuto
import Derived.Laws.Tables
import Derived.Laws.CopyOwn
import Derived.Test.YtplghpamckdklaaGreatQ6
import Derived.Laws.Rows
import Derived.Test.YtplghpamckdklaaGreatRows
import Derived.Shelf.Small.Bits
import Derived.Shelf.Strconv.Itoa0
namespace Go.Proofs.YtplghpamckdklaaGreat
open Go.RowKit
set_option maxRecDepth 100000
set_option linter.unusedSimpArgs false
set_option linter.unusedVariables false

theorem cmd_info {n : Nat} (h : n = 22) : (Tryz.prog.info? 28).map (·.size) = some n := by subst h; kernel_rfl
def zeroCmd : Array Value := #[.int .i64 0, .string ⟨#[]⟩, .string ⟨#[]⟩, .int .i64 0, .int .i64 0, .int .i64 0, .int .i64 0, .int .i64 0, .int .i64 0, .int .i64 0, .int .i64 0, .int .i64 0, .int .i64 0, .string ⟨#[]⟩, .bool false, .bool false, .string ⟨#[]⟩, .int .i64 0, .string ⟨#[]⟩, .string ⟨#[]⟩, .string ⟨#[]⟩, .slice none 0 0]
theorem zeroCmd_size : zeroCmd.size = 22 := rfl
def bare11 (cs : Array Value) : Array Value := (((cs.setIfInBounds 10 (.int .i64 0)).setIfInBounds 11 (.int .i64 0)).setIfInBounds 12 (.int .i64 0))
theorem bare11_size (cs : Array Value) : (bare11 cs).size = cs.size := by unfold bare11; simp
set_option maxHeartbeats 1000000 in
theorem unnamed_11 (cs : Array Value) (w : World) (hs : cs.size = 22) (hk : cs[0]? = some (.int .i64 11)) (h1 : (bare11 cs).all (·.oneCell') = true) : Calls Tryz.prog 22 #[.agg cs] w fun e w1 => e = .returned (.agg (bare11 cs)) ∧ Below w.heap.size w w1 := by
  have hb0 := heap_alloc_new w (.cells cs 28)
  have hb1 := heap_alloc_new (w.alloc (.cells cs 28)) (.cells zeroCmd 28)
  simp only [World.size_alloc] at hb1
  have HA := Lib.hid (heap_on (below_alloc (w.alloc (.cells cs 28)) (.cells zeroCmd 28)) hb0)
  have HZ := Lib.hid hb1
  have HW := Lib.hid (show Below w.heap.size w ((w.alloc (.cells cs 28)).alloc (.cells zeroCmd 28)) from below_more (below_alloc _ _))
  have a0 : ((w.alloc (.cells cs 28)).alloc (.cells zeroCmd 28)).cell? ⟨w.heap.size, 0, none⟩ = some (.int .i64 11) := (cell_of_row _ _ 0 _ _ _ HA.out).trans hk
  unfold zeroCmd at a0 HA HZ HW
  clear hb0 hb1
  go_enter Tryz.func22, Tryz.ntmps22
  go_upto_region 21 with fail
  generalize hx : World.alloc (World.alloc w _) _ = wb at HA HZ HW a0 ⊢
  clear hx a0
  obtain ⟨v10, c10⟩ : ∃ v, wb.cell? ⟨w.heap.size, 10, none⟩ = some v := ⟨_, (cell_of_row wb w.heap.size 10 _ _ _ HA.out).trans (Array.getElem?_eq_getElem (i := 10) (by rw [hs]; omega))⟩
  have f10 := frozen_of_row wb w.heap.size 10 _ _ HA.out
  obtain ⟨v11, c11⟩ : ∃ v, wb.cell? ⟨w.heap.size, 11, none⟩ = some v := ⟨_, (cell_of_row wb w.heap.size 11 _ _ _ HA.out).trans (Array.getElem?_eq_getElem (i := 11) (by rw [hs]; omega))⟩
  have f11 := frozen_of_row wb w.heap.size 11 _ _ HA.out
  obtain ⟨v12, c12⟩ : ∃ v, wb.cell? ⟨w.heap.size, 12, none⟩ = some v := ⟨_, (cell_of_row wb w.heap.size 12 _ _ _ HA.out).trans (Array.getElem?_eq_getElem (i := 12) (by rw [hs]; omega))⟩
  have f12 := frozen_of_row wb w.heap.size 12 _ _ HA.out
  have q0 : ((wb.setCell ⟨w.heap.size, 10, none⟩ (.int .i64 0))).heap[w.heap.size]? = some (.cells (cs.setIfInBounds 10 (.int .i64 0)) 28 (0, 0)) := heap_setCell_same _ w.heap.size 10 _ _ _ HA.out
  have q1 : (((wb.setCell ⟨w.heap.size, 10, none⟩ (.int .i64 0)).setCell ⟨w.heap.size, 11, none⟩ (.int .i64 0))).heap[w.heap.size]? = some (.cells ((cs.setIfInBounds 10 (.int .i64 0)).setIfInBounds 11 (.int .i64 0)) 28 (0, 0)) := heap_setCell_same _ w.heap.size 11 _ _ _ q0
  have q2 : ((((wb.setCell ⟨w.heap.size, 10, none⟩ (.int .i64 0)).setCell ⟨w.heap.size, 11, none⟩ (.int .i64 0)).setCell ⟨w.heap.size, 12, none⟩ (.int .i64 0))).heap[w.heap.size]? = some (.cells (((cs.setIfInBounds 10 (.int .i64 0)).setIfInBounds 11 (.int .i64 0)).setIfInBounds 12 (.int .i64 0)) 28 (0, 0)) := heap_setCell_same _ w.heap.size 12 _ _ _ q1
  have HB := Lib.hid (show ((((wb.setCell ⟨w.heap.size, 10, none⟩ (.int .i64 0)).setCell ⟨w.heap.size, 11, none⟩ (.int .i64 0)).setCell ⟨w.heap.size, 12, none⟩ (.int .i64 0))).heap[w.heap.size]? = some (.cells (bare11 cs) 28 (0, 0)) from q2)
  clear q0 q1 q2
  have HZ2 : Hid (((((wb.setCell ⟨w.heap.size, 10, none⟩ (.int .i64 0)).setCell ⟨w.heap.size, 11, none⟩ (.int .i64 0)).setCell ⟨w.heap.size, 12, none⟩ (.int .i64 0))).heap[w.heap.size + 1]? = some (.cells #[.int .i64 0, .string ⟨#[]⟩, .string ⟨#[]⟩, .int .i64 0, .int .i64 0, .int .i64 0, .int .i64 0, .int .i64 0, .int .i64 0, .int .i64 0, .int .i64 0, .int .i64 0, .int .i64 0, .string ⟨#[]⟩, .bool false, .bool false, .string ⟨#[]⟩, .int .i64 0, .string ⟨#[]⟩, .string ⟨#[]⟩, .string ⟨#[]⟩, .slice none 0 0] 28 (0, 0))) := Lib.hid ((heap_setCell_other _ ⟨w.heap.size, 12, none⟩ (w.heap.size + 1) (.int .i64 0) (by simp)).trans ((heap_setCell_other _ ⟨w.heap.size, 11, none⟩ (w.heap.size + 1) (.int .i64 0) (by simp)).trans ((heap_setCell_other _ ⟨w.heap.size, 10, none⟩ (w.heap.size + 1) (.int .i64 0) (by simp)).trans HZ.out)))
  have s0 := Below.setCell HW.out (p := ⟨w.heap.size, 10, none⟩) (Nat.le_refl _) (.int .i64 0)
  have s1 := Below.setCell s0 (p := ⟨w.heap.size, 11, none⟩) (Nat.le_refl _) (.int .i64 0)
  have s2 := Below.setCell s1 (p := ⟨w.heap.size, 12, none⟩) (Nat.le_refl _) (.int .i64 0)
  have HW2 := Lib.hid s2
  clear s0 s1 s2
  have hsz : (bare11 cs).size = 22 := (bare11_size cs).trans hs
  have HI := Lib.hid (And.intro (cmd_info hsz) h1)
  have HSZ := Lib.hid hsz
  clear hs hk h1 hsz HA HZ HW
  go_upto_region 22 with fail
  generalize hx : (((wb.setCell ⟨w.heap.size, 10, none⟩ (.int .i64 0)).setCell ⟨w.heap.size, 11, none⟩ (.int .i64 0)).setCell ⟨w.heap.size, 12, none⟩ (.int .i64 0)) = wc at HB HZ2 HW2 ⊢
  clear hx c10 f10 c11 f11 c12 f12
  go_wp2_with ((with_reducible refine wpList_load_row (o := ⟨some 48, _, _, _, _, _⟩) ?a1 28 (.tmp 1) ?a2 w.heap.size ?a3 28 (bare11 cs) (0, 0) _ HB.out Tryz.underlying28 ?a4 HI.out.1 ?_); (case a1 => rfl); (case a2 => rfl); (case a3 => rfl); (case a4 => rfl); refine Stop.out ?_)
  unfold Stop
  go_wp2_with ((with_reducible refine wpList_store_row (o := ⟨none, _, _, _, _, _⟩) ?b1 28 (.tmp 2) (.tmp 48) ?b2 (w.heap.size + 1) (bare11 cs) ?b3 ?b4 28 #[.int .i64 0, .string ⟨#[]⟩, .string ⟨#[]⟩, .int .i64 0, .int .i64 0, .int .i64 0, .int .i64 0, .int .i64 0, .int .i64 0, .int .i64 0, .int .i64 0, .int .i64 0, .int .i64 0, .string ⟨#[]⟩, .bool false, .bool false, .string ⟨#[]⟩, .int .i64 0, .string ⟨#[]⟩, .string ⟨#[]⟩, .string ⟨#[]⟩, .slice none 0 0] HZ2.out HI.out.1 ?b5 HI.out.2 ?_); (case b1 => rfl); (case b2 => rfl); (case b3 => rfl); (case b4 => rfl); (case b5 => exact HSZ.out.symm); have HP9 := Lib.hid (setRow_heap wc (w.heap.size + 1) _ (bare11 cs) _ _ HZ2.out); have HB9 := Lib.hid (below_setRow HW2.out (g := w.heap.size + 1) (by omega) (bare11 cs)); refine Stop.out ?_)
  unfold Stop
  go_wp2
  exact bodyPost_ret (v := .agg (bare11 cs)) (results_cell_row Tryz.results22 _ _ (w.heap.size + 1) 28 (bare11 cs) (0, 0) _ rfl HP9.out Tryz.underlying28 rfl HI.out.1) rfl ⟨rfl, HB9.out⟩
def bare8 (cs : Array Value) : Array Value := (((((((((cs.setIfInBounds 13 (.string ⟨#[]⟩)).setIfInBounds 14 (.bool false)).setIfInBounds 15 (.bool false)).setIfInBounds 16 (.string ⟨#[]⟩)).setIfInBounds 17 (.int .i64 0)).setIfInBounds 18 (.string ⟨#[]⟩)).setIfInBounds 19 (.string ⟨#[]⟩)).setIfInBounds 20 (.string ⟨#[]⟩)).setIfInBounds 21 (.slice none 0 0))
theorem bare8_size (cs : Array Value) : (bare8 cs).size = cs.size := by unfold bare8; simp
set_option maxHeartbeats 1000000 in
theorem unnamed_8 (cs : Array Value) (w : World) (hs : cs.size = 22) (hk : cs[0]? = some (.int .i64 8)) (h1 : (bare8 cs).all (·.oneCell') = true) : Calls Tryz.prog 22 #[.agg cs] w fun e w1 => e = .returned (.agg (bare8 cs)) ∧ Below w.heap.size w w1 := by
  have hb0 := heap_alloc_new w (.cells cs 28)
  have hb1 := heap_alloc_new (w.alloc (.cells cs 28)) (.cells zeroCmd 28)
  simp only [World.size_alloc] at hb1
  have HA := Lib.hid (heap_on (below_alloc (w.alloc (.cells cs 28)) (.cells zeroCmd 28)) hb0)
  have HZ := Lib.hid hb1
  have HW := Lib.hid (show Below w.heap.size w ((w.alloc (.cells cs 28)).alloc (.cells zeroCmd 28)) from below_more (below_alloc _ _))
  have a0 : ((w.alloc (.cells cs 28)).alloc (.cells zeroCmd 28)).cell? ⟨w.heap.size, 0, none⟩ = some (.int .i64 8) := (cell_of_row _ _ 0 _ _ _ HA.out).trans hk
  unfold zeroCmd at a0 HA HZ HW
  clear hb0 hb1
  go_enter Tryz.func22, Tryz.ntmps22
  go_upto_region 19 with fail
  generalize hx : World.alloc (World.alloc w _) _ = wb at HA HZ HW a0 ⊢
  clear hx a0
  obtain ⟨v13, c13⟩ : ∃ v, wb.cell? ⟨w.heap.size, 13, none⟩ = some v := ⟨_, (cell_of_row wb w.heap.size 13 _ _ _ HA.out).trans (Array.getElem?_eq_getElem (i := 13) (by rw [hs]; omega))⟩
  have f13 := frozen_of_row wb w.heap.size 13 _ _ HA.out
  obtain ⟨v14, c14⟩ : ∃ v, wb.cell? ⟨w.heap.size, 14, none⟩ = some v := ⟨_, (cell_of_row wb w.heap.size 14 _ _ _ HA.out).trans (Array.getElem?_eq_getElem (i := 14) (by rw [hs]; omega))⟩
  have f14 := frozen_of_row wb w.heap.size 14 _ _ HA.out
  obtain ⟨v15, c15⟩ : ∃ v, wb.cell? ⟨w.heap.size, 15, none⟩ = some v := ⟨_, (cell_of_row wb w.heap.size 15 _ _ _ HA.out).trans (Array.getElem?_eq_getElem (i := 15) (by rw [hs]; omega))⟩
  have f15 := frozen_of_row wb w.heap.size 15 _ _ HA.out
  obtain ⟨v16, c16⟩ : ∃ v, wb.cell? ⟨w.heap.size, 16, none⟩ = some v := ⟨_, (cell_of_row wb w.heap.size 16 _ _ _ HA.out).trans (Array.getElem?_eq_getElem (i := 16) (by rw [hs]; omega))⟩
  have f16 := frozen_of_row wb w.heap.size 16 _ _ HA.out
  obtain ⟨v17, c17⟩ : ∃ v, wb.cell? ⟨w.heap.size, 17, none⟩ = some v := ⟨_, (cell_of_row wb w.heap.size 17 _ _ _ HA.out).trans (Array.getElem?_eq_getElem (i := 17) (by rw [hs]; omega))⟩
  have f17 := frozen_of_row wb w.heap.size 17 _ _ HA.out
  obtain ⟨v18, c18⟩ : ∃ v, wb.cell? ⟨w.heap.size, 18, none⟩ = some v := ⟨_, (cell_of_row wb w.heap.size 18 _ _ _ HA.out).trans (Array.getElem?_eq_getElem (i := 18) (by rw [hs]; omega))⟩
  have f18 := frozen_of_row wb w.heap.size 18 _ _ HA.out
  obtain ⟨v19, c19⟩ : ∃ v, wb.cell? ⟨w.heap.size, 19, none⟩ = some v := ⟨_, (cell_of_row wb w.heap.size 19 _ _ _ HA.out).trans (Array.getElem?_eq_getElem (i := 19) (by rw [hs]; omega))⟩
  have f19 := frozen_of_row wb w.heap.size 19 _ _ HA.out
  obtain ⟨v20, c20⟩ : ∃ v, wb.cell? ⟨w.heap.size, 20, none⟩ = some v := ⟨_, (cell_of_row wb w.heap.size 20 _ _ _ HA.out).trans (Array.getElem?_eq_getElem (i := 20) (by rw [hs]; omega))⟩
  have f20 := frozen_of_row wb w.heap.size 20 _ _ HA.out
  obtain ⟨v21, c21⟩ : ∃ v, wb.cell? ⟨w.heap.size, 21, none⟩ = some v := ⟨_, (cell_of_row wb w.heap.size 21 _ _ _ HA.out).trans (Array.getElem?_eq_getElem (i := 21) (by rw [hs]; omega))⟩
  have f21 := frozen_of_row wb w.heap.size 21 _ _ HA.out
  have q0 : ((wb.setCell ⟨w.heap.size, 13, none⟩ (.string ⟨#[]⟩))).heap[w.heap.size]? = some (.cells (cs.setIfInBounds 13 (.string ⟨#[]⟩)) 28 (0, 0)) := heap_setCell_same _ w.heap.size 13 _ _ _ HA.out
  have q1 : (((wb.setCell ⟨w.heap.size, 13, none⟩ (.string ⟨#[]⟩)).setCell ⟨w.heap.size, 14, none⟩ (.bool false))).heap[w.heap.size]? = some (.cells ((cs.setIfInBounds 13 (.string ⟨#[]⟩)).setIfInBounds 14 (.bool false)) 28 (0, 0)) := heap_setCell_same _ w.heap.size 14 _ _ _ q0
  have q2 : ((((wb.setCell ⟨w.heap.size, 13, none⟩ (.string ⟨#[]⟩)).setCell ⟨w.heap.size, 14, none⟩ (.bool false)).setCell ⟨w.heap.size, 15, none⟩ (.bool false))).heap[w.heap.size]? = some (.cells (((cs.setIfInBounds 13 (.string ⟨#[]⟩)).setIfInBounds 14 (.bool false)).setIfInBounds 15 (.bool false)) 28 (0, 0)) := heap_setCell_same _ w.heap.size 15 _ _ _ q1
  have q3 : (((((wb.setCell ⟨w.heap.size, 13, none⟩ (.string ⟨#[]⟩)).setCell ⟨w.heap.size, 14, none⟩ (.bool false)).setCell ⟨w.heap.size, 15, none⟩ (.bool false)).setCell ⟨w.heap.size, 16, none⟩ (.string ⟨#[]⟩))).heap[w.heap.size]? = some (.cells ((((cs.setIfInBounds 13 (.string ⟨#[]⟩)).setIfInBounds 14 (.bool false)).setIfInBounds 15 (.bool false)).setIfInBounds 16 (.string ⟨#[]⟩)) 28 (0, 0)) := heap_setCell_same _ w.heap.size 16 _ _ _ q2
  have q4 : ((((((wb.setCell ⟨w.heap.size, 13, none⟩ (.string ⟨#[]⟩)).setCell ⟨w.heap.size, 14, none⟩ (.bool false)).setCell ⟨w.heap.size, 15, none⟩ (.bool false)).setCell ⟨w.heap.size, 16, none⟩ (.string ⟨#[]⟩)).setCell ⟨w.heap.size, 17, none⟩ (.int .i64 0))).heap[w.heap.size]? = some (.cells (((((cs.setIfInBounds 13 (.string ⟨#[]⟩)).setIfInBounds 14 (.bool false)).setIfInBounds 15 (.bool false)).setIfInBounds 16 (.string ⟨#[]⟩)).setIfInBounds 17 (.int .i64 0)) 28 (0, 0)) := heap_setCell_same _ w.heap.size 17 _ _ _ q3
  have q5 : (((((((wb.setCell ⟨w.heap.size, 13, none⟩ (.string ⟨#[]⟩)).setCell ⟨w.heap.size, 14, none⟩ (.bool false)).setCell ⟨w.heap.size, 15, none⟩ (.bool false)).setCell ⟨w.heap.size, 16, none⟩ (.string ⟨#[]⟩)).setCell ⟨w.heap.size, 17, none⟩ (.int .i64 0)).setCell ⟨w.heap.size, 18, none⟩ (.string ⟨#[]⟩))).heap[w.heap.size]? = some (.cells ((((((cs.setIfInBounds 13 (.string ⟨#[]⟩)).setIfInBounds 14 (.bool false)).setIfInBounds 15 (.bool false)).setIfInBounds 16 (.string ⟨#[]⟩)).setIfInBounds 17 (.int .i64 0)).setIfInBounds 18 (.string ⟨#[]⟩)) 28 (0, 0)) := heap_setCell_same _ w.heap.size 18 _ _ _ q4
  have q6 : ((((((((wb.setCell ⟨w.heap.size, 13, none⟩ (.string ⟨#[]⟩)).setCell ⟨w.heap.size, 14, none⟩ (.bool false)).setCell ⟨w.heap.size, 15, none⟩ (.bool false)).setCell ⟨w.heap.size, 16, none⟩ (.string ⟨#[]⟩)).setCell ⟨w.heap.size, 17, none⟩ (.int .i64 0)).setCell ⟨w.heap.size, 18, none⟩ (.string ⟨#[]⟩)).setCell ⟨w.heap.size, 19, none⟩ (.string ⟨#[]⟩))).heap[w.heap.size]? = some (.cells (((((((cs.setIfInBounds 13 (.string ⟨#[]⟩)).setIfInBounds 14 (.bool false)).setIfInBounds 15 (.bool false)).setIfInBounds 16 (.string ⟨#[]⟩)).setIfInBounds 17 (.int .i64 0)).setIfInBounds 18 (.string ⟨#[]⟩)).setIfInBounds 19 (.string ⟨#[]⟩)) 28 (0, 0)) := heap_setCell_same _ w.heap.size 19 _ _ _ q5
  have q7 : (((((((((wb.setCell ⟨w.heap.size, 13, none⟩ (.string ⟨#[]⟩)).setCell ⟨w.heap.size, 14, none⟩ (.bool false)).setCell ⟨w.heap.size, 15, none⟩ (.bool false)).setCell ⟨w.heap.size, 16, none⟩ (.string ⟨#[]⟩)).setCell ⟨w.heap.size, 17, none⟩ (.int .i64 0)).setCell ⟨w.heap.size, 18, none⟩ (.string ⟨#[]⟩)).setCell ⟨w.heap.size, 19, none⟩ (.string ⟨#[]⟩)).setCell ⟨w.heap.size, 20, none⟩ (.string ⟨#[]⟩))).heap[w.heap.size]? = some (.cells ((((((((cs.setIfInBounds 13 (.string ⟨#[]⟩)).setIfInBounds 14 (.bool false)).setIfInBounds 15 (.bool false)).setIfInBounds 16 (.string ⟨#[]⟩)).setIfInBounds 17 (.int .i64 0)).setIfInBounds 18 (.string ⟨#[]⟩)).setIfInBounds 19 (.string ⟨#[]⟩)).setIfInBounds 20 (.string ⟨#[]⟩)) 28 (0, 0)) := heap_setCell_same _ w.heap.size 20 _ _ _ q6
  have q8 : ((((((((((wb.setCell ⟨w.heap.size, 13, none⟩ (.string ⟨#[]⟩)).setCell ⟨w.heap.size, 14, none⟩ (.bool false)).setCell ⟨w.heap.size, 15, none⟩ (.bool false)).setCell ⟨w.heap.size, 16, none⟩ (.string ⟨#[]⟩)).setCell ⟨w.heap.size, 17, none⟩ (.int .i64 0)).setCell ⟨w.heap.size, 18, none⟩ (.string ⟨#[]⟩)).setCell ⟨w.heap.size, 19, none⟩ (.string ⟨#[]⟩)).setCell ⟨w.heap.size, 20, none⟩ (.string ⟨#[]⟩)).setCell ⟨w.heap.size, 21, none⟩ (.slice none 0 0))).heap[w.heap.size]? = some (.cells (((((((((cs.setIfInBounds 13 (.string ⟨#[]⟩)).setIfInBounds 14 (.bool false)).setIfInBounds 15 (.bool false)).setIfInBounds 16 (.string ⟨#[]⟩)).setIfInBounds 17 (.int .i64 0)).setIfInBounds 18 (.string ⟨#[]⟩)).setIfInBounds 19 (.string ⟨#[]⟩)).setIfInBounds 20 (.string ⟨#[]⟩)).setIfInBounds 21 (.slice none 0 0)) 28 (0, 0)) := heap_setCell_same _ w.heap.size 21 _ _ _ q7
  have HB := Lib.hid (show ((((((((((wb.setCell ⟨w.heap.size, 13, none⟩ (.string ⟨#[]⟩)).setCell ⟨w.heap.size, 14, none⟩ (.bool false)).setCell ⟨w.heap.size, 15, none⟩ (.bool false)).setCell ⟨w.heap.size, 16, none⟩ (.string ⟨#[]⟩)).setCell ⟨w.heap.size, 17, none⟩ (.int .i64 0)).setCell ⟨w.heap.size, 18, none⟩ (.string ⟨#[]⟩)).setCell ⟨w.heap.size, 19, none⟩ (.string ⟨#[]⟩)).setCell ⟨w.heap.size, 20, none⟩ (.string ⟨#[]⟩)).setCell ⟨w.heap.size, 21, none⟩ (.slice none 0 0))).heap[w.heap.size]? = some (.cells (bare8 cs) 28 (0, 0)) from q8)
  clear q0 q1 q2 q3 q4 q5 q6 q7 q8
  have HZ2 : Hid (((((((((((wb.setCell ⟨w.heap.size, 13, none⟩ (.string ⟨#[]⟩)).setCell ⟨w.heap.size, 14, none⟩ (.bool false)).setCell ⟨w.heap.size, 15, none⟩ (.bool false)).setCell ⟨w.heap.size, 16, none⟩ (.string ⟨#[]⟩)).setCell ⟨w.heap.size, 17, none⟩ (.int .i64 0)).setCell ⟨w.heap.size, 18, none⟩ (.string ⟨#[]⟩)).setCell ⟨w.heap.size, 19, none⟩ (.string ⟨#[]⟩)).setCell ⟨w.heap.size, 20, none⟩ (.string ⟨#[]⟩)).setCell ⟨w.heap.size, 21, none⟩ (.slice none 0 0))).heap[w.heap.size + 1]? = some (.cells #[.int .i64 0, .string ⟨#[]⟩, .string ⟨#[]⟩, .int .i64 0, .int .i64 0, .int .i64 0, .int .i64 0, .int .i64 0, .int .i64 0, .int .i64 0, .int .i64 0, .int .i64 0, .int .i64 0, .string ⟨#[]⟩, .bool false, .bool false, .string ⟨#[]⟩, .int .i64 0, .string ⟨#[]⟩, .string ⟨#[]⟩, .string ⟨#[]⟩, .slice none 0 0] 28 (0, 0))) := Lib.hid ((heap_setCell_other _ ⟨w.heap.size, 21, none⟩ (w.heap.size + 1) (.slice none 0 0) (by simp)).trans ((heap_setCell_other _ ⟨w.heap.size, 20, none⟩ (w.heap.size + 1) (.string ⟨#[]⟩) (by simp)).trans ((heap_setCell_other _ ⟨w.heap.size, 19, none⟩ (w.heap.size + 1) (.string ⟨#[]⟩) (by simp)).trans ((heap_setCell_other _ ⟨w.heap.size, 18, none⟩ (w.heap.size + 1) (.string ⟨#[]⟩) (by simp)).trans ((heap_setCell_other _ ⟨w.heap.size, 17, none⟩ (w.heap.size + 1) (.int .i64 0) (by simp)).trans ((heap_setCell_other _ ⟨w.heap.size, 16, none⟩ (w.heap.size + 1) (.string ⟨#[]⟩) (by simp)).trans ((heap_setCell_other _ ⟨w.heap.size, 15, none⟩ (w.heap.size + 1) (.bool false) (by simp)).trans ((heap_setCell_other _ ⟨w.heap.size, 14, none⟩ (w.heap.size + 1) (.bool false) (by simp)).trans ((heap_setCell_other _ ⟨w.heap.size, 13, none⟩ (w.heap.size + 1) (.string ⟨#[]⟩) (by simp)).trans HZ.out)))))))))
  have s0 := Below.setCell HW.out (p := ⟨w.heap.size, 13, none⟩) (Nat.le_refl _) (.string ⟨#[]⟩)
  have s1 := Below.setCell s0 (p := ⟨w.heap.size, 14, none⟩) (Nat.le_refl _) (.bool false)
  have s2 := Below.setCell s1 (p := ⟨w.heap.size, 15, none⟩) (Nat.le_refl _) (.bool false)
  have s3 := Below.setCell s2 (p := ⟨w.heap.size, 16, none⟩) (Nat.le_refl _) (.string ⟨#[]⟩)
  have s4 := Below.setCell s3 (p := ⟨w.heap.size, 17, none⟩) (Nat.le_refl _) (.int .i64 0)
  have s5 := Below.setCell s4 (p := ⟨w.heap.size, 18, none⟩) (Nat.le_refl _) (.string ⟨#[]⟩)
  have s6 := Below.setCell s5 (p := ⟨w.heap.size, 19, none⟩) (Nat.le_refl _) (.string ⟨#[]⟩)
  have s7 := Below.setCell s6 (p := ⟨w.heap.size, 20, none⟩) (Nat.le_refl _) (.string ⟨#[]⟩)
  have s8 := Below.setCell s7 (p := ⟨w.heap.size, 21, none⟩) (Nat.le_refl _) (.slice none 0 0)
  have HW2 := Lib.hid s8
  clear s0 s1 s2 s3 s4 s5 s6 s7 s8
  have hsz : (bare8 cs).size = 22 := (bare8_size cs).trans hs
  have HI := Lib.hid (And.intro (cmd_info hsz) h1)
  have HSZ := Lib.hid hsz
  clear hs hk h1 hsz HA HZ HW
  go_upto_region 22 with fail
  generalize hx : (((((((((wb.setCell ⟨w.heap.size, 13, none⟩ (.string ⟨#[]⟩)).setCell ⟨w.heap.size, 14, none⟩ (.bool false)).setCell ⟨w.heap.size, 15, none⟩ (.bool false)).setCell ⟨w.heap.size, 16, none⟩ (.string ⟨#[]⟩)).setCell ⟨w.heap.size, 17, none⟩ (.int .i64 0)).setCell ⟨w.heap.size, 18, none⟩ (.string ⟨#[]⟩)).setCell ⟨w.heap.size, 19, none⟩ (.string ⟨#[]⟩)).setCell ⟨w.heap.size, 20, none⟩ (.string ⟨#[]⟩)).setCell ⟨w.heap.size, 21, none⟩ (.slice none 0 0)) = wc at HB HZ2 HW2 ⊢
  clear hx c13 f13 c14 f14 c15 f15 c16 f16 c17 f17 c18 f18 c19 f19 c20 f20 c21 f21
  go_wp2_with ((with_reducible refine wpList_load_row (o := ⟨some 48, _, _, _, _, _⟩) ?a1 28 (.tmp 1) ?a2 w.heap.size ?a3 28 (bare8 cs) (0, 0) _ HB.out Tryz.underlying28 ?a4 HI.out.1 ?_); (case a1 => rfl); (case a2 => rfl); (case a3 => rfl); (case a4 => rfl); refine Stop.out ?_)
  unfold Stop
  go_wp2_with ((with_reducible refine wpList_store_row (o := ⟨none, _, _, _, _, _⟩) ?b1 28 (.tmp 2) (.tmp 48) ?b2 (w.heap.size + 1) (bare8 cs) ?b3 ?b4 28 #[.int .i64 0, .string ⟨#[]⟩, .string ⟨#[]⟩, .int .i64 0, .int .i64 0, .int .i64 0, .int .i64 0, .int .i64 0, .int .i64 0, .int .i64 0, .int .i64 0, .int .i64 0, .int .i64 0, .string ⟨#[]⟩, .bool false, .bool false, .string ⟨#[]⟩, .int .i64 0, .string ⟨#[]⟩, .string ⟨#[]⟩, .string ⟨#[]⟩, .slice none 0 0] HZ2.out HI.out.1 ?b5 HI.out.2 ?_); (case b1 => rfl); (case b2 => rfl); (case b3 => rfl); (case b4 => rfl); (case b5 => exact HSZ.out.symm); have HP9 := Lib.hid (setRow_heap wc (w.heap.size + 1) _ (bare8 cs) _ _ HZ2.out); have HB9 := Lib.hid (below_setRow HW2.out (g := w.heap.size + 1) (by omega) (bare8 cs)); refine Stop.out ?_)
  unfold Stop
  go_wp2
  exact bodyPost_ret (v := .agg (bare8 cs)) (results_cell_row Tryz.results22 _ _ (w.heap.size + 1) 28 (bare8 cs) (0, 0) _ rfl HP9.out Tryz.underlying28 rfl HI.out.1) rfl ⟨rfl, HB9.out⟩
end Go.Proofs.YtplghpamckdklaaGreat

namespace Go.Proofs.YtplghpamckdklaaGreat
open Go.RowKit
set_option maxRecDepth 100000
set_option linter.unusedSimpArgs false
set_option linter.unusedVariables false

theorem below_drew (w : World) : Below w.heap.size w w.drew := (Below.refl _ w).drew
theorem exec_load_row {P : Program} {o : Oper} {ev : Operand → Value} {w : World} (ty : TypeId) (x : Operand) (ho : o.op = .load ty x)
    (g : Nat) (hx : ev x = .pointer (some ⟨g, 0, none⟩)) (t : TypeId) (cs : Array Value) (fr : Nat × Nat) (d : TypeDesc) (hg : w.heap[g]? = some (.cells cs t fr))
    (hu : P.underlying ty = some d) (hd : (match d with | .struct _ | .array _ _ => true | _ => false) = true) (hi : (P.info? ty).map (·.size) = some cs.size) :
    (execOp ev o).run P w = .ok (.value (.agg cs)) w := by
  unfold execOp
  simp only [ho, hx, Instr.loadAt, Instr.sureAddr, Sem.run_bind, Sem.run_pure, Result.andThen_ok, run_loadVar_row w g t ty cs fr d hg hu hd hi]
set_option maxHeartbeats 2000000 in
theorem good_yes (cs : Array Value) (k : Int) (u : Array Value) (s : Bool) (w : World) (hs : cs.size = 22) (hk : cs[0]? = some (.int .i64 k)) (HA : Hid (∀ W, Below w.heap.size w W → Calls Tryz.prog 20 #[.agg cs] W fun e w1 => e = .returned (.bool true) ∧ Below W.heap.size W w1)) (HU : Hid (∀ W, Calls Tryz.prog 22 #[.agg cs] W fun e w1 => e = .returned (.agg u) ∧ Below W.heap.size W w1)) (HSm : Hid (∀ W, Below w.heap.size w W → Calls Tryz.prog 21 #[.agg u, .agg #[.int .i64 k, .string ⟨#[]⟩, .string ⟨#[]⟩, .int .i64 0, .int .i64 0, .int .i64 0, .int .i64 0, .int .i64 0, .int .i64 0, .int .i64 0, .int .i64 0, .int .i64 0, .int .i64 0, .string ⟨#[]⟩, .bool false, .bool false, .string ⟨#[]⟩, .int .i64 0, .string ⟨#[]⟩, .string ⟨#[]⟩, .string ⟨#[]⟩, .slice none 0 0]] W fun e w1 => e = .returned (.bool s) ∧ Below W.heap.size W w1)) : Calls Tryz.prog 8 #[.agg cs] w fun e w1 => e = .returned (.bool s) ∧ Below w.heap.size w w1 := by
  have HXd := Lib.hid (heap_on (below_drew _) (heap_alloc_new w (.cells cs 28)))
  have HWd := Lib.hid (below_then (below_alloc w (.cells cs 28)) (below_drew _))
  have HI := Lib.hid (cmd_info hs)
  have HK := Lib.hid hk
  clear hs hk
  go_enter Tryz.func8, Tryz.ntmps8
  go_wp2
  refine wp_region_held_drew (S := fun V => V.heap[w.heap.size]? = some (.cells cs 28 (0, 0))) (by kernel_rfl) HXd.out ?_
  intro hHeld
  clear HXd
  generalize World.drew _ = wd at HWd hHeld ⊢
  (refine takeH (i := 0) (v := .agg cs) rfl (by kernel_rfl) (by kernel_rfl) (by kernel_rfl) (fun _ _ _ h => h) (Or.inl ⟨by rfl, fun wS hSw => exec_load_row 28 (.tmp 1) rfl w.heap.size rfl 28 cs (0, 0) _ hSw Tryz.underlying28 rfl HI.out⟩) (by assumption) ?_; (try simp only [Act.put, List.setIfInBounds_toArray, List.set_cons_zero, List.set_cons_succ]))
  refine aloneH (i := 1) rfl (by kernel_rfl) (fun K hK => ?_)
  rw [if_pos (by rfl)]
  go_simp; ((refine (HA.out _ HWd.out).mono ?_); (rintro e w1 ⟨rfl, hb⟩); have HB1 := Lib.hid hb; clear hb; (try go_simp))
  refine hK.out _ _ (heap_on HB1.out hHeld) (fun hNew => ?_)
  clear hK K hHeld; (have hHeld := hNew); clear hNew; (try simp only [Act.put, List.setIfInBounds_toArray, List.set_cons_zero, List.set_cons_succ])
  (refine takeH (i := 2) (v := ?_) rfl (by kernel_rfl) (by kernel_rfl) (by kernel_rfl) (fun _ _ _ h => h) (Or.inl ⟨by rfl, ?_⟩) (by assumption) ?_; rotate_left; (focus ((intro wS hSw); (try dsimp only at hSw); have s0 := (cell_of_row wS w.heap.size 0 _ _ _ hSw).trans HK.out; go_simp; (try with_reducible rfl); done)); (try simp only [Act.put, List.setIfInBounds_toArray, List.set_cons_zero, List.set_cons_succ]))
  (refine takeH (i := 3) (v := .agg cs) rfl (by kernel_rfl) (by kernel_rfl) (by kernel_rfl) (fun _ _ _ h => h) (Or.inl ⟨by rfl, fun wS hSw => exec_load_row 28 (.tmp 1) rfl w.heap.size rfl 28 cs (0, 0) _ hSw Tryz.underlying28 rfl HI.out⟩) (by assumption) ?_; (try simp only [Act.put, List.setIfInBounds_toArray, List.set_cons_zero, List.set_cons_succ]))
  (refine takeH (i := 5) (v := ?_) rfl (by kernel_rfl) (by kernel_rfl) (by kernel_rfl) (fun _ _ _ h => h) (Or.inl ⟨by rfl, ?_⟩) (by assumption) ?_; rotate_left; (focus ((intro wS hSw); (try dsimp only at hSw); have s0 := (cell_of_row wS w.heap.size 0 _ _ _ hSw).trans HK.out; go_simp; (try with_reducible rfl); done)); (try simp only [Act.put, List.setIfInBounds_toArray, List.set_cons_zero, List.set_cons_succ]))
  (refine takeH (i := 6) (v := ?_) rfl (by kernel_rfl) (by kernel_rfl) (by kernel_rfl) (fun _ _ _ h => h) (Or.inl ⟨by rfl, ?_⟩) (by assumption) ?_; rotate_left; (focus ((intro wS hSw); (try dsimp only at hSw); have s0 := (cell_of_row wS w.heap.size 0 _ _ _ hSw).trans HK.out; go_simp; (try with_reducible rfl); done)); (try simp only [Act.put, List.setIfInBounds_toArray, List.set_cons_zero, List.set_cons_succ]))
  (refine takeH (i := 7) (v := ?_) rfl (by kernel_rfl) (by kernel_rfl) (by kernel_rfl) (fun _ _ _ h => h) (Or.inl ⟨by rfl, ?_⟩) (by assumption) ?_; rotate_left; (focus ((intro wS hSw); (try dsimp only at hSw); have s0 := (cell_of_row wS w.heap.size 0 _ _ _ hSw).trans HK.out; go_simp; (try with_reducible rfl); done)); (try simp only [Act.put, List.setIfInBounds_toArray, List.set_cons_zero, List.set_cons_succ]))
  refine aloneH (i := 4) rfl (by kernel_rfl) (fun K hK => ?_)
  rw [if_pos (by rfl)]
  go_simp; ((refine (HU.out _).mono ?_); (rintro e w2 ⟨rfl, hb⟩); have HB2 := Lib.hid hb; clear hb; (try go_simp))
  refine hK.out _ _ (heap_on HB2.out hHeld) (fun hNew => ?_)
  clear hK K hHeld; (have hHeld := hNew); clear hNew; (try simp only [Act.put, List.setIfInBounds_toArray, List.set_cons_zero, List.set_cons_succ])
  refine aloneH (i := 8) rfl (by kernel_rfl) (fun K hK => ?_)
  rw [if_pos (by rfl)]
  go_simp; ((refine (HSm.out _ (below_then HWd.out (below_then HB1.out HB2.out))).mono ?_); (rintro e w3 ⟨rfl, hb⟩); have HB3 := Lib.hid hb; clear hb; (try go_simp))
  refine hK.out _ _ (heap_on HB3.out hHeld) (fun hNew => ?_)
  clear hK K hHeld; (have hHeld := hNew); clear hNew; (try simp only [Act.put, List.setIfInBounds_toArray, List.set_cons_zero, List.set_cons_succ])
  (refine takeH (i := 9) (v := ?_) rfl (by kernel_rfl) (by kernel_rfl) (by kernel_rfl) (fun _ _ _ h => h) (Or.inl ⟨by rfl, ?_⟩) (by assumption) ?_; rotate_left; (focus ((intro wS hSw); (try dsimp only at hSw); have s0 := (cell_of_row wS w.heap.size 0 _ _ _ hSw).trans HK.out; go_simp; (try with_reducible rfl); done)); (try simp only [Act.put, List.setIfInBounds_toArray, List.set_cons_zero, List.set_cons_succ]))
  (refine takeH (i := 10) (v := ?_) rfl (by kernel_rfl) (by kernel_rfl) (by kernel_rfl) (fun _ _ _ h => h) (Or.inl ⟨by rfl, ?_⟩) (by assumption) ?_; rotate_left; (focus ((intro wS hSw); (try dsimp only at hSw); have s0 := (cell_of_row wS w.heap.size 0 _ _ _ hSw).trans HK.out; go_simp; (try with_reducible rfl); done)); (try simp only [Act.put, List.setIfInBounds_toArray, List.set_cons_zero, List.set_cons_succ]))
  refine wpAnyH_done (by kernel_rfl) ?_ _
  clear hHeld
  go_wp2
  go_ret
  exact ⟨rfl, below_then HWd.out (below_then (below_then HB1.out HB2.out) HB3.out)⟩
set_option maxHeartbeats 2000000 in
theorem good_no (cs : Array Value) (k : Int) (w : World) (hs : cs.size = 22) (hk : cs[0]? = some (.int .i64 k)) (HA : Hid (∀ W, Below w.heap.size w W → Calls Tryz.prog 20 #[.agg cs] W fun e w1 => e = .returned (.bool false) ∧ Below W.heap.size W w1)) : Calls Tryz.prog 8 #[.agg cs] w fun e w1 => e = .returned (.bool false) ∧ Below w.heap.size w w1 := by
  have HXd := Lib.hid (heap_on (below_drew _) (heap_alloc_new w (.cells cs 28)))
  have HWd := Lib.hid (below_then (below_alloc w (.cells cs 28)) (below_drew _))
  have HI := Lib.hid (cmd_info hs)
  have HK := Lib.hid hk
  clear hs hk
  go_enter Tryz.func8, Tryz.ntmps8
  go_wp2
  refine wp_region_held_drew (S := fun V => V.heap[w.heap.size]? = some (.cells cs 28 (0, 0))) (by kernel_rfl) HXd.out ?_
  intro hHeld
  clear HXd
  generalize World.drew _ = wd at HWd hHeld ⊢
  (refine takeH (i := 0) (v := .agg cs) rfl (by kernel_rfl) (by kernel_rfl) (by kernel_rfl) (fun _ _ _ h => h) (Or.inl ⟨by rfl, fun wS hSw => exec_load_row 28 (.tmp 1) rfl w.heap.size rfl 28 cs (0, 0) _ hSw Tryz.underlying28 rfl HI.out⟩) (by assumption) ?_; (try simp only [Act.put, List.setIfInBounds_toArray, List.set_cons_zero, List.set_cons_succ]))
  refine aloneH (i := 1) rfl (by kernel_rfl) (fun K hK => ?_)
  rw [if_pos (by rfl)]
  go_simp; ((refine (HA.out _ HWd.out).mono ?_); (rintro e w1 ⟨rfl, hb⟩); have HB1 := Lib.hid hb; clear hb; (try go_simp))
  refine hK.out _ _ (heap_on HB1.out hHeld) (fun hNew => ?_)
  clear hK K hHeld; (have hHeld := hNew); clear hNew; (try simp only [Act.put, List.setIfInBounds_toArray, List.set_cons_zero, List.set_cons_succ])
  (refine takeH (i := 2) (v := ?_) rfl (by kernel_rfl) (by kernel_rfl) (by kernel_rfl) (fun _ _ _ h => h) (Or.inl ⟨by rfl, ?_⟩) (by assumption) ?_; rotate_left; (focus ((intro wS hSw); (try dsimp only at hSw); have s0 := (cell_of_row wS w.heap.size 0 _ _ _ hSw).trans HK.out; go_simp; (try with_reducible rfl); done)); (try simp only [Act.put, List.setIfInBounds_toArray, List.set_cons_zero, List.set_cons_succ]))
  (refine takeH (i := 3) (v := undef) rfl (by kernel_rfl) (by kernel_rfl) (by kernel_rfl) (fun _ _ _ h => h) (Or.inr ⟨by rfl, rfl⟩) (by assumption) ?_; (try simp only [Act.put, List.setIfInBounds_toArray, List.set_cons_zero, List.set_cons_succ]))
  (refine takeH (i := 4) (v := undef) rfl (by kernel_rfl) (by kernel_rfl) (by kernel_rfl) (fun _ _ _ h => h) (Or.inr ⟨by rfl, rfl⟩) (by assumption) ?_; (try simp only [Act.put, List.setIfInBounds_toArray, List.set_cons_zero, List.set_cons_succ]))
  (refine takeH (i := 5) (v := undef) rfl (by kernel_rfl) (by kernel_rfl) (by kernel_rfl) (fun _ _ _ h => h) (Or.inr ⟨by rfl, rfl⟩) (by assumption) ?_; (try simp only [Act.put, List.setIfInBounds_toArray, List.set_cons_zero, List.set_cons_succ]))
  (refine takeH (i := 6) (v := undef) rfl (by kernel_rfl) (by kernel_rfl) (by kernel_rfl) (fun _ _ _ h => h) (Or.inr ⟨by rfl, rfl⟩) (by assumption) ?_; (try simp only [Act.put, List.setIfInBounds_toArray, List.set_cons_zero, List.set_cons_succ]))
  (refine takeH (i := 7) (v := undef) rfl (by kernel_rfl) (by kernel_rfl) (by kernel_rfl) (fun _ _ _ h => h) (Or.inr ⟨by rfl, rfl⟩) (by assumption) ?_; (try simp only [Act.put, List.setIfInBounds_toArray, List.set_cons_zero, List.set_cons_succ]))
  (refine takeH (i := 8) (v := undef) rfl (by kernel_rfl) (by kernel_rfl) (by kernel_rfl) (fun _ _ _ h => h) (Or.inr ⟨by rfl, rfl⟩) (by assumption) ?_; (try simp only [Act.put, List.setIfInBounds_toArray, List.set_cons_zero, List.set_cons_succ]))
  (refine takeH (i := 9) (v := ?_) rfl (by kernel_rfl) (by kernel_rfl) (by kernel_rfl) (fun _ _ _ h => h) (Or.inl ⟨by rfl, ?_⟩) (by assumption) ?_; rotate_left; (focus ((intro wS hSw); (try dsimp only at hSw); have s0 := (cell_of_row wS w.heap.size 0 _ _ _ hSw).trans HK.out; go_simp; (try with_reducible rfl); done)); (try simp only [Act.put, List.setIfInBounds_toArray, List.set_cons_zero, List.set_cons_succ]))
  (refine takeH (i := 10) (v := ?_) rfl (by kernel_rfl) (by kernel_rfl) (by kernel_rfl) (fun _ _ _ h => h) (Or.inl ⟨by rfl, ?_⟩) (by assumption) ?_; rotate_left; (focus ((intro wS hSw); (try dsimp only at hSw); have s0 := (cell_of_row wS w.heap.size 0 _ _ _ hSw).trans HK.out; go_simp; (try with_reducible rfl); done)); (try simp only [Act.put, List.setIfInBounds_toArray, List.set_cons_zero, List.set_cons_succ]))
  refine wpAnyH_done (by kernel_rfl) ?_ _
  clear hHeld
  go_wp2
  go_ret
  exact ⟨rfl, below_then HWd.out HB1.out⟩
end Go.Proofs.YtplghpamckdklaaGreat

namespace Go.Proofs.YtplghpamckdklaaGreat
open Go.Shelf
set_option maxRecDepth 100000

def lays125_ren : Go.Shelf.Ren := ⟨fun | 125 => 113 | 128 => 125 | 129 => 126 | n => n, fun | 46 => 106 | 3 => 3 | 51 => 124 | 53 => 127 | 4 => 4 | 5 => 5 | 9 => 9 | n => n, fun | n => n⟩
theorem lays125 : Go.Proofs.Lays.n125 Tryz.prog lays125_ren := {
  mixed := by kernel_rfl
  f125 := Tryz.func113.trans (congrArg some (by kernel_rfl))
  f128 := Tryz.func125.trans (congrArg some (by kernel_rfl))
  f129 := Tryz.func126.trans (congrArg some (by kernel_rfl))
  t3 := Tryz.underlying3
  a3 := Tryz.isAgg3
  z3 := Tryz.sizeOf3
  v3 := Tryz.zeroValue3
  t4 := Tryz.underlying4
  a4 := Tryz.isAgg4
  z4 := Tryz.sizeOf4
  v4 := Tryz.zeroValue4
  t5 := Tryz.underlying5
  a5 := Tryz.isAgg5
  z5 := Tryz.sizeOf5
  v5 := Tryz.zeroValue5
  t9 := Tryz.underlying9
  a9 := Tryz.isAgg9
  z9 := Tryz.sizeOf9
  v9 := Tryz.zeroValue9
  t46 := Tryz.underlying106
  a46 := Tryz.isAgg106
  z46 := Tryz.sizeOf106
  v46 := Tryz.zeroValue106
  t51 := Tryz.underlying124
  a51 := Tryz.isAgg124
  z51 := Tryz.sizeOf124
  v51 := Tryz.zeroValue124
  t53 := Tryz.underlying127
  a53 := Tryz.isAgg127
  z53 := Tryz.sizeOf127
  v53 := Tryz.zeroValue127 }
theorem bits_Len (x : Int) (w : World) (h0 : 0 ≤ x) (h1 : x ≤ 18446744073709551615) :
    Calls Tryz.prog 113 #[.int .u64 x] w fun e w' => e = .returned (.int .i64 (Lib.bitLen x.toNat)) ∧ w' = w := Any.bits_Len lays125 x w h0 h1
end Go.Proofs.YtplghpamckdklaaGreat
