/- Two commands are the same just if the document says so: the walk. -/
import Derived.Test.YtplghpamckdklaaRcY
import Derived.Test.YtplghpamckdklaaDocC
import Derived.Test.YtplghpamckdklaaDocM
import Derived.Test.YtplghpamckdklaaDocI
import Derived.Test.YtplghpamckdklaaDocJ
import Derived.Test.YtplghpamckdklaaDocK
import Derived.Test.YtplghpamckdklaaDocL
import Derived.Deep.Cut
import Derived.Deep.DeepCutAuto
import Derived.Laws.CopyOwn
namespace Go.Proofs.Ytplghpamckdklaa
open Go.RowKit Go.ChangeShapes
set_option maxRecDepth 100000
set_option linter.unusedSimpArgs false
set_option linter.unusedVariables false

set_option maxHeartbeats 4000000 in
theorem same_long1 (cx cy : Array Value)  (w : World) (hsx : cx.size = 22) (hsy : cy.size = 22) (HLx : Hid (∀ W, Below w.heap.size w W → Calls Try.prog 6 #[.agg cx] W fun e w1 => e = .returned (.bool false) ∧ Below W.heap.size W w1)) (HS7 : Hid (∀ W, Below w.heap.size w W → Calls Try.prog 7 #[] W fun e w1 => e = .returned (.bool true) ∧ Below W.heap.size W w1)) : Calls Try.prog 3 #[.agg cx, .agg cy] w fun e w1 => e = .returned (.bool true) ∧ Below w.heap.size w w1 := by
  have h1 := heap_alloc_new w (.cells cx 28)
  have h2 := heap_alloc_new (w.alloc (.cells cx 28)) (.cells cy 28)
  simp only [World.size_alloc] at h2
  have HX := Lib.hid (heap_on (below_alloc (w.alloc (.cells cx 28)) (.cells cy 28)) h1)
  have HY := Lib.hid h2
  have HB0 := Lib.hid (show Below w.heap.size w ((w.alloc (.cells cx 28)).alloc (.cells cy 28)) from below_more (below_alloc _ _))
  have HI := Lib.hid (And.intro (cmd_info hsx) (cmd_info hsy))
  clear h1 h2 hsx hsy
  go_enter Try.func3, Try.ntmps3
  go_upto_region 1 with fail
  generalize hx : World.alloc (World.alloc w _) _ = wb at HX HY HB0 ⊢
  clear hx
  go_wp2_with ((with_reducible refine wpList_load_row (o := ⟨some 5, _, _, _, _, _⟩) ?a1 28 (.tmp 2) ?a2 w.heap.size ?a3 28 cx (0, 0) _ HX.out Try.underlying28 ?a4 HI.out.1 ?_); (case a1 => rfl); (case a2 => rfl); (case a3 => rfl); (case a4 => rfl); refine Stop.out ?_)
  unfold Stop
  go_wp2_with (go_at_call 6; refine (HLx.out _ HB0.out).mono ?_; rintro e w1 ⟨rfl, hb⟩; have HB1 := Lib.hid (below_then HB0.out hb); have HX1 := Lib.hid (heap_on hb HX.out); have HY1 := Lib.hid (heap_on hb HY.out); clear hb; refine Stop.out ?_)
  unfold Stop
  go_wp2_with (go_at_call 7; refine (HS7.out _ HB1.out).mono ?_; rintro e w9 ⟨rfl, hb⟩; have HB9 := Lib.hid (below_then HB1.out hb); clear hb; refine Stop.out ?_)
  unfold Stop
  go_wp2
  go_ret
  exact ⟨rfl, HB9.out⟩
set_option maxHeartbeats 4000000 in
theorem same_long2 (cx cy : Array Value)  (w : World) (hsx : cx.size = 22) (hsy : cy.size = 22) (HLx : Hid (∀ W, Below w.heap.size w W → Calls Try.prog 6 #[.agg cx] W fun e w1 => e = .returned (.bool true) ∧ Below W.heap.size W w1)) (HLy : Hid (∀ W, Below w.heap.size w W → Calls Try.prog 6 #[.agg cy] W fun e w1 => e = .returned (.bool false) ∧ Below W.heap.size W w1)) (HS7 : Hid (∀ W, Below w.heap.size w W → Calls Try.prog 7 #[] W fun e w1 => e = .returned (.bool true) ∧ Below W.heap.size W w1)) : Calls Try.prog 3 #[.agg cx, .agg cy] w fun e w1 => e = .returned (.bool true) ∧ Below w.heap.size w w1 := by
  have h1 := heap_alloc_new w (.cells cx 28)
  have h2 := heap_alloc_new (w.alloc (.cells cx 28)) (.cells cy 28)
  simp only [World.size_alloc] at h2
  have HX := Lib.hid (heap_on (below_alloc (w.alloc (.cells cx 28)) (.cells cy 28)) h1)
  have HY := Lib.hid h2
  have HB0 := Lib.hid (show Below w.heap.size w ((w.alloc (.cells cx 28)).alloc (.cells cy 28)) from below_more (below_alloc _ _))
  have HI := Lib.hid (And.intro (cmd_info hsx) (cmd_info hsy))
  clear h1 h2 hsx hsy
  go_enter Try.func3, Try.ntmps3
  go_upto_region 1 with fail
  generalize hx : World.alloc (World.alloc w _) _ = wb at HX HY HB0 ⊢
  clear hx
  go_wp2_with ((with_reducible refine wpList_load_row (o := ⟨some 5, _, _, _, _, _⟩) ?a1 28 (.tmp 2) ?a2 w.heap.size ?a3 28 cx (0, 0) _ HX.out Try.underlying28 ?a4 HI.out.1 ?_); (case a1 => rfl); (case a2 => rfl); (case a3 => rfl); (case a4 => rfl); refine Stop.out ?_)
  unfold Stop
  go_wp2_with (go_at_call 6; refine (HLx.out _ HB0.out).mono ?_; rintro e w1 ⟨rfl, hb⟩; have HB1 := Lib.hid (below_then HB0.out hb); have HX1 := Lib.hid (heap_on hb HX.out); have HY1 := Lib.hid (heap_on hb HY.out); clear hb; refine Stop.out ?_)
  unfold Stop
  go_wp2_with ((with_reducible refine wpList_load_rowG (o := ⟨some 9, _, _, _, _, _⟩) ?a0 28 (.tmp 3) ?a1 (w.heap.size + 1) ?a2 28 cy (0, 0) _ HY1.out Try.underlying28 ?a4 HI.out.2 ?_); (case a0 => first | rfl | kernel_rfl); (case a1 => rfl); (case a2 => rfl); (case a4 => rfl); refine Stop.out ?_)
  unfold Stop
  go_wp2_with (go_at_call 6; refine (HLy.out _ HB1.out).mono ?_; rintro e w2 ⟨rfl, hb⟩; have HB2 := Lib.hid (below_then HB1.out hb); have HX2 := Lib.hid (heap_on hb HX1.out); have HY2 := Lib.hid (heap_on hb HY1.out); clear hb; refine Stop.out ?_)
  unfold Stop
  go_wp2_with (go_at_call 7; refine (HS7.out _ HB2.out).mono ?_; rintro e w9 ⟨rfl, hb⟩; have HB9 := Lib.hid (below_then HB2.out hb); clear hb; refine Stop.out ?_)
  unfold Stop
  go_wp2
  go_ret
  exact ⟨rfl, HB9.out⟩
set_option maxHeartbeats 4000000 in
theorem same_walk (cx cy : Array Value) (p0 p1 p2 p3 p4 p5 p6 p7 p8 q0 q1 q2 q3 q4 q5 q6 q7 q8 : Value) (b1 b2 : Bool) (w : World) (hsx : cx.size = 22) (hsy : cy.size = 22) (HLx : Hid (∀ W, Below w.heap.size w W → Calls Try.prog 6 #[.agg cx] W fun e w1 => e = .returned (.bool true) ∧ Below W.heap.size W w1)) (HLy : Hid (∀ W, Below w.heap.size w W → Calls Try.prog 6 #[.agg cy] W fun e w1 => e = .returned (.bool true) ∧ Below W.heap.size W w1)) (HS1 : Hid (∀ W, Below w.heap.size w W → Calls Try.prog 8 #[.agg cx, .agg cy] W fun e w1 => e = .returned (.bool b1) ∧ Below W.heap.size W w1)) (HS2 : Hid (∀ W, Below w.heap.size w W → Calls Try.prog 9 #[.agg cx, .agg cy] W fun e w1 => e = .returned (.bool b1) ∧ Below W.heap.size W w1)) (HS3 : Hid (∀ W, Below w.heap.size w W → Calls Try.prog 10 #[.agg #[p0, p1, p2, p3, p4, p5, p6, p7, p8], .agg #[q0, q1, q2, q3, q4, q5, q6, q7, q8]] W fun e w1 => e = .returned (.bool b2) ∧ Below W.heap.size W w1)) (HS4 : Hid (∀ W, Below w.heap.size w W → Calls Try.prog 11 #[.agg #[p0, p1, p2, p3, p4, p5, p6, p7, p8], .agg #[q0, q1, q2, q3, q4, q5, q6, q7, q8]] W fun e w1 => e = .returned (.bool b2) ∧ Below W.heap.size W w1)) (HS5 : Hid (∀ W, Below w.heap.size w W → Calls Try.prog 8 #[.agg cx, .agg cx] W fun e w1 => e = .returned (.bool true) ∧ Below W.heap.size W w1)) (HS6 : Hid (∀ W, Below w.heap.size w W → Calls Try.prog 10 #[.agg #[q0, q1, q2, q3, q4, q5, q6, q7, q8], .agg #[q0, q1, q2, q3, q4, q5, q6, q7, q8]] W fun e w1 => e = .returned (.bool true) ∧ Below W.heap.size W w1)) (HS7 : Hid (∀ W, Below w.heap.size w W → Calls Try.prog 7 #[] W fun e w1 => e = .returned (.bool true) ∧ Below W.heap.size W w1)) (HDx : Hid (cx[13]? = some p0 ∧ cx[14]? = some p1 ∧ cx[15]? = some p2 ∧ cx[16]? = some p3 ∧ cx[17]? = some p4 ∧ cx[18]? = some p5 ∧ cx[19]? = some p6 ∧ cx[20]? = some p7 ∧ cx[21]? = some p8)) (HDy : Hid (cy[13]? = some q0 ∧ cy[14]? = some q1 ∧ cy[15]? = some q2 ∧ cy[16]? = some q3 ∧ cy[17]? = some q4 ∧ cy[18]? = some q5 ∧ cy[19]? = some q6 ∧ cy[20]? = some q7 ∧ cy[21]? = some q8)) : Calls Try.prog 3 #[.agg cx, .agg cy] w fun e w1 => e = .returned (.bool true) ∧ Below w.heap.size w w1 := by
  have h1 := heap_alloc_new w (.cells cx 28)
  have h2 := heap_alloc_new (w.alloc (.cells cx 28)) (.cells cy 28)
  simp only [World.size_alloc] at h2
  have HX := Lib.hid (heap_on (below_alloc (w.alloc (.cells cx 28)) (.cells cy 28)) h1)
  have HY := Lib.hid h2
  have HB0 := Lib.hid (show Below w.heap.size w ((w.alloc (.cells cx 28)).alloc (.cells cy 28)) from below_more (below_alloc _ _))
  have HI := Lib.hid (And.intro (cmd_info hsx) (cmd_info hsy))
  clear h1 h2 hsx hsy
  go_enter Try.func3, Try.ntmps3
  go_upto_region 1 with fail
  generalize hx : World.alloc (World.alloc w _) _ = wb at HX HY HB0 ⊢
  clear hx
  go_wp2_with ((with_reducible refine wpList_load_row (o := ⟨some 5, _, _, _, _, _⟩) ?a1 28 (.tmp 2) ?a2 w.heap.size ?a3 28 cx (0, 0) _ HX.out Try.underlying28 ?a4 HI.out.1 ?_); (case a1 => rfl); (case a2 => rfl); (case a3 => rfl); (case a4 => rfl); refine Stop.out ?_)
  unfold Stop
  go_wp2_with (go_at_call 6; refine (HLx.out _ HB0.out).mono ?_; rintro e w1 ⟨rfl, hb⟩; have HB1 := Lib.hid (below_then HB0.out hb); have HX1 := Lib.hid (heap_on hb HX.out); have HY1 := Lib.hid (heap_on hb HY.out); clear hb; refine Stop.out ?_)
  unfold Stop
  go_wp2_with ((with_reducible refine wpList_load_rowG (o := ⟨some 9, _, _, _, _, _⟩) ?a0 28 (.tmp 3) ?a1 (w.heap.size + 1) ?a2 28 cy (0, 0) _ HY1.out Try.underlying28 ?a4 HI.out.2 ?_); (case a0 => first | rfl | kernel_rfl); (case a1 => rfl); (case a2 => rfl); (case a4 => rfl); refine Stop.out ?_)
  unfold Stop
  go_wp2_with (go_at_call 6; refine (HLy.out _ HB1.out).mono ?_; rintro e w2 ⟨rfl, hb⟩; have HB2 := Lib.hid (below_then HB1.out hb); have HX2 := Lib.hid (heap_on hb HX1.out); have HY2 := Lib.hid (heap_on hb HY1.out); clear hb; refine Stop.out ?_)
  unfold Stop
  have HHd := Lib.hid (And.intro (heap_on (below_drew w2) HX2.out) (heap_on (below_drew w2) HY2.out))
  have HWd := Lib.hid (below_then HB2.out (below_drew w2))
  clear HX HY HX1 HY1 HX2 HY2 HB0 HB1 HB2
  go_wp2
  refine wp_region_held_drew (S := fun V => V.heap[w.heap.size]? = some (.cells cx 28 (0, 0)) ∧ V.heap[w.heap.size + 1]? = some (.cells cy 28 (0, 0))) (by kernel_rfl) HHd.out ?_
  intro hHeld
  clear HHd
  generalize World.drew _ = wd at HWd hHeld ⊢
  (refine takeH (i := 0) (v := .agg cx) rfl (by kernel_rfl) (by kernel_rfl) (by kernel_rfl) (fun _ _ _ h => h) (Or.inl ⟨by rfl, fun wS hSw => exec_load_row 28 (.tmp 2) rfl w.heap.size rfl 28 cx (0, 0) _ hSw.1 Try.underlying28 rfl HI.out.1⟩) (by assumption) ?_; (try simp only [Act.put, List.setIfInBounds_toArray, List.set_cons_zero, List.set_cons_succ]))
  (refine takeH (i := 1) (v := .agg cy) rfl (by kernel_rfl) (by kernel_rfl) (by kernel_rfl) (fun _ _ _ h => h) (Or.inl ⟨by rfl, fun wS hSw => exec_load_row 28 (.tmp 3) rfl (w.heap.size + 1) rfl 28 cy (0, 0) _ hSw.2 Try.underlying28 rfl HI.out.2⟩) (by assumption) ?_; (try simp only [Act.put, List.setIfInBounds_toArray, List.set_cons_zero, List.set_cons_succ]))
  (refine takeH (i := 3) (v := .agg cx) rfl (by kernel_rfl) (by kernel_rfl) (by kernel_rfl) (fun _ _ _ h => h) (Or.inl ⟨by rfl, fun wS hSw => exec_load_row 28 (.tmp 2) rfl w.heap.size rfl 28 cx (0, 0) _ hSw.1 Try.underlying28 rfl HI.out.1⟩) (by assumption) ?_; (try simp only [Act.put, List.setIfInBounds_toArray, List.set_cons_zero, List.set_cons_succ]))
  (refine takeH (i := 4) (v := .agg cy) rfl (by kernel_rfl) (by kernel_rfl) (by kernel_rfl) (fun _ _ _ h => h) (Or.inl ⟨by rfl, fun wS hSw => exec_load_row 28 (.tmp 3) rfl (w.heap.size + 1) rfl 28 cy (0, 0) _ hSw.2 Try.underlying28 rfl HI.out.2⟩) (by assumption) ?_; (try simp only [Act.put, List.setIfInBounds_toArray, List.set_cons_zero, List.set_cons_succ]))
  refine aloneH (i := 2) rfl (by kernel_rfl) (fun K hK => ?_)
  rw [if_pos (by rfl)]
  go_simp; ((refine (HS1.out _ (below_then HWd.out (below_same wd))).mono ?_); (rintro e w1 ⟨rfl, hb⟩); have HB1 := Lib.hid hb; clear hb; (try go_simp))
  refine hK.out _ _ (⟨heap_on HB1.out hHeld.1, heap_on HB1.out hHeld.2⟩) (fun hNew => ?_)
  clear hK K hHeld; (have hHeld := hNew); clear hNew; (try simp only [Act.put, List.setIfInBounds_toArray, List.set_cons_zero, List.set_cons_succ])
  refine aloneH (i := 5) rfl (by kernel_rfl) (fun K hK => ?_)
  rw [if_pos (by rfl)]
  go_simp; ((refine (HS2.out _ (below_then HWd.out HB1.out)).mono ?_); (rintro e w2 ⟨rfl, hb⟩); have HB2 := Lib.hid hb; clear hb; (try go_simp))
  refine hK.out _ _ (⟨heap_on HB2.out hHeld.1, heap_on HB2.out hHeld.2⟩) (fun hNew => ?_)
  clear hK K hHeld; (have hHeld := hNew); clear hNew; (try simp only [Act.put, List.setIfInBounds_toArray, List.set_cons_zero, List.set_cons_succ])
  (refine takeH (i := 6) (v := ?_) rfl (by kernel_rfl) (by kernel_rfl) (by kernel_rfl) (fun _ _ _ h => h) (Or.inl ⟨by rfl, ?_⟩) (by assumption) ?_; rotate_left; (focus ((intro wS hSw); (try dsimp only at hSw); obtain ⟨s0, s1⟩ := hSw; go_simp; (try with_reducible rfl); done)); (try simp only [Act.put, List.setIfInBounds_toArray, List.set_cons_zero, List.set_cons_succ]))
  (refine takeH (i := 7) (v := ?_) rfl (by kernel_rfl) (by kernel_rfl) (by kernel_rfl) (fun _ _ _ h => h) (Or.inl ⟨by rfl, ?_⟩) (by assumption) ?_; rotate_left; (focus ((intro wS hSw); (try dsimp only at hSw); obtain ⟨s0, s1⟩ := hSw; go_simp; (try with_reducible rfl); done)); (try simp only [Act.put, List.setIfInBounds_toArray, List.set_cons_zero, List.set_cons_succ]))
  (refine takeH (i := 8) (v := ?_) rfl (by kernel_rfl) (by kernel_rfl) (by kernel_rfl) (fun _ _ _ h => h) (Or.inl ⟨by rfl, ?_⟩) (by assumption) ?_; rotate_left; (focus ((intro wS hSw); (try dsimp only at hSw); obtain ⟨s0, s1⟩ := hSw; go_simp; (try with_reducible rfl); done)); (try simp only [Act.put, List.setIfInBounds_toArray, List.set_cons_zero, List.set_cons_succ]))
  (refine takeH (i := 9) (v := .agg #[p0, p1, p2, p3, p4, p5, p6, p7, p8]) rfl (by kernel_rfl) (by kernel_rfl) (by kernel_rfl) (fun _ _ _ h => h) (Or.inl ⟨by rfl, by (intro wS hSw); (have s0 := (cell_of_row wS w.heap.size 13 _ _ _ hSw.1).trans HDx.out.1; have s1 := (cell_of_row wS w.heap.size 14 _ _ _ hSw.1).trans HDx.out.2.1; have s2 := (cell_of_row wS w.heap.size 15 _ _ _ hSw.1).trans HDx.out.2.2.1; have s3 := (cell_of_row wS w.heap.size 16 _ _ _ hSw.1).trans HDx.out.2.2.2.1; have s4 := (cell_of_row wS w.heap.size 17 _ _ _ hSw.1).trans HDx.out.2.2.2.2.1; have s5 := (cell_of_row wS w.heap.size 18 _ _ _ hSw.1).trans HDx.out.2.2.2.2.2.1; have s6 := (cell_of_row wS w.heap.size 19 _ _ _ hSw.1).trans HDx.out.2.2.2.2.2.2.1; have s7 := (cell_of_row wS w.heap.size 20 _ _ _ hSw.1).trans HDx.out.2.2.2.2.2.2.2.1; have s8 := (cell_of_row wS w.heap.size 21 _ _ _ hSw.1).trans HDx.out.2.2.2.2.2.2.2.2); go_simp; try rfl⟩) (by assumption) ?_; (try simp only [Act.put, List.setIfInBounds_toArray, List.set_cons_zero, List.set_cons_succ]))
  (refine takeH (i := 10) (v := ?_) rfl (by kernel_rfl) (by kernel_rfl) (by kernel_rfl) (fun _ _ _ h => h) (Or.inl ⟨by rfl, ?_⟩) (by assumption) ?_; rotate_left; (focus ((intro wS hSw); (try dsimp only at hSw); obtain ⟨s0, s1⟩ := hSw; go_simp; (try with_reducible rfl); done)); (try simp only [Act.put, List.setIfInBounds_toArray, List.set_cons_zero, List.set_cons_succ]))
  (refine takeH (i := 11) (v := .agg #[q0, q1, q2, q3, q4, q5, q6, q7, q8]) rfl (by kernel_rfl) (by kernel_rfl) (by kernel_rfl) (fun _ _ _ h => h) (Or.inl ⟨by rfl, by (intro wS hSw); (have s0 := (cell_of_row wS (w.heap.size + 1) 13 _ _ _ hSw.2).trans HDy.out.1; have s1 := (cell_of_row wS (w.heap.size + 1) 14 _ _ _ hSw.2).trans HDy.out.2.1; have s2 := (cell_of_row wS (w.heap.size + 1) 15 _ _ _ hSw.2).trans HDy.out.2.2.1; have s3 := (cell_of_row wS (w.heap.size + 1) 16 _ _ _ hSw.2).trans HDy.out.2.2.2.1; have s4 := (cell_of_row wS (w.heap.size + 1) 17 _ _ _ hSw.2).trans HDy.out.2.2.2.2.1; have s5 := (cell_of_row wS (w.heap.size + 1) 18 _ _ _ hSw.2).trans HDy.out.2.2.2.2.2.1; have s6 := (cell_of_row wS (w.heap.size + 1) 19 _ _ _ hSw.2).trans HDy.out.2.2.2.2.2.2.1; have s7 := (cell_of_row wS (w.heap.size + 1) 20 _ _ _ hSw.2).trans HDy.out.2.2.2.2.2.2.2.1; have s8 := (cell_of_row wS (w.heap.size + 1) 21 _ _ _ hSw.2).trans HDy.out.2.2.2.2.2.2.2.2); go_simp; try rfl⟩) (by assumption) ?_; (try simp only [Act.put, List.setIfInBounds_toArray, List.set_cons_zero, List.set_cons_succ]))
  (refine takeH (i := 13) (v := ?_) rfl (by kernel_rfl) (by kernel_rfl) (by kernel_rfl) (fun _ _ _ h => h) (Or.inl ⟨by rfl, ?_⟩) (by assumption) ?_; rotate_left; (focus ((intro wS hSw); (try dsimp only at hSw); obtain ⟨s0, s1⟩ := hSw; go_simp; (try with_reducible rfl); done)); (try simp only [Act.put, List.setIfInBounds_toArray, List.set_cons_zero, List.set_cons_succ]))
  (refine takeH (i := 14) (v := .agg #[p0, p1, p2, p3, p4, p5, p6, p7, p8]) rfl (by kernel_rfl) (by kernel_rfl) (by kernel_rfl) (fun _ _ _ h => h) (Or.inl ⟨by rfl, by (intro wS hSw); (have s0 := (cell_of_row wS w.heap.size 13 _ _ _ hSw.1).trans HDx.out.1; have s1 := (cell_of_row wS w.heap.size 14 _ _ _ hSw.1).trans HDx.out.2.1; have s2 := (cell_of_row wS w.heap.size 15 _ _ _ hSw.1).trans HDx.out.2.2.1; have s3 := (cell_of_row wS w.heap.size 16 _ _ _ hSw.1).trans HDx.out.2.2.2.1; have s4 := (cell_of_row wS w.heap.size 17 _ _ _ hSw.1).trans HDx.out.2.2.2.2.1; have s5 := (cell_of_row wS w.heap.size 18 _ _ _ hSw.1).trans HDx.out.2.2.2.2.2.1; have s6 := (cell_of_row wS w.heap.size 19 _ _ _ hSw.1).trans HDx.out.2.2.2.2.2.2.1; have s7 := (cell_of_row wS w.heap.size 20 _ _ _ hSw.1).trans HDx.out.2.2.2.2.2.2.2.1; have s8 := (cell_of_row wS w.heap.size 21 _ _ _ hSw.1).trans HDx.out.2.2.2.2.2.2.2.2); go_simp; try rfl⟩) (by assumption) ?_; (try simp only [Act.put, List.setIfInBounds_toArray, List.set_cons_zero, List.set_cons_succ]))
  (refine takeH (i := 15) (v := ?_) rfl (by kernel_rfl) (by kernel_rfl) (by kernel_rfl) (fun _ _ _ h => h) (Or.inl ⟨by rfl, ?_⟩) (by assumption) ?_; rotate_left; (focus ((intro wS hSw); (try dsimp only at hSw); obtain ⟨s0, s1⟩ := hSw; go_simp; (try with_reducible rfl); done)); (try simp only [Act.put, List.setIfInBounds_toArray, List.set_cons_zero, List.set_cons_succ]))
  (refine takeH (i := 16) (v := .agg #[q0, q1, q2, q3, q4, q5, q6, q7, q8]) rfl (by kernel_rfl) (by kernel_rfl) (by kernel_rfl) (fun _ _ _ h => h) (Or.inl ⟨by rfl, by (intro wS hSw); (have s0 := (cell_of_row wS (w.heap.size + 1) 13 _ _ _ hSw.2).trans HDy.out.1; have s1 := (cell_of_row wS (w.heap.size + 1) 14 _ _ _ hSw.2).trans HDy.out.2.1; have s2 := (cell_of_row wS (w.heap.size + 1) 15 _ _ _ hSw.2).trans HDy.out.2.2.1; have s3 := (cell_of_row wS (w.heap.size + 1) 16 _ _ _ hSw.2).trans HDy.out.2.2.2.1; have s4 := (cell_of_row wS (w.heap.size + 1) 17 _ _ _ hSw.2).trans HDy.out.2.2.2.2.1; have s5 := (cell_of_row wS (w.heap.size + 1) 18 _ _ _ hSw.2).trans HDy.out.2.2.2.2.2.1; have s6 := (cell_of_row wS (w.heap.size + 1) 19 _ _ _ hSw.2).trans HDy.out.2.2.2.2.2.2.1; have s7 := (cell_of_row wS (w.heap.size + 1) 20 _ _ _ hSw.2).trans HDy.out.2.2.2.2.2.2.2.1; have s8 := (cell_of_row wS (w.heap.size + 1) 21 _ _ _ hSw.2).trans HDy.out.2.2.2.2.2.2.2.2); go_simp; try rfl⟩) (by assumption) ?_; (try simp only [Act.put, List.setIfInBounds_toArray, List.set_cons_zero, List.set_cons_succ]))
  refine aloneH (i := 12) rfl (by kernel_rfl) (fun K hK => ?_)
  rw [if_pos (by rfl)]
  go_simp; ((refine (HS3.out _ (below_then HWd.out (below_then HB1.out HB2.out))).mono ?_); (rintro e w3 ⟨rfl, hb⟩); have HB3 := Lib.hid hb; clear hb; (try go_simp))
  refine hK.out _ _ (⟨heap_on HB3.out hHeld.1, heap_on HB3.out hHeld.2⟩) (fun hNew => ?_)
  clear hK K hHeld; (have hHeld := hNew); clear hNew; (try simp only [Act.put, List.setIfInBounds_toArray, List.set_cons_zero, List.set_cons_succ])
  refine aloneH (i := 17) rfl (by kernel_rfl) (fun K hK => ?_)
  rw [if_pos (by rfl)]
  go_simp; ((refine (HS4.out _ (below_then HWd.out (below_then (below_then HB1.out HB2.out) HB3.out))).mono ?_); (rintro e w4 ⟨rfl, hb⟩); have HB4 := Lib.hid hb; clear hb; (try go_simp))
  refine hK.out _ _ (⟨heap_on HB4.out hHeld.1, heap_on HB4.out hHeld.2⟩) (fun hNew => ?_)
  clear hK K hHeld; (have hHeld := hNew); clear hNew; (try simp only [Act.put, List.setIfInBounds_toArray, List.set_cons_zero, List.set_cons_succ])
  (refine takeH (i := 18) (v := ?_) rfl (by kernel_rfl) (by kernel_rfl) (by kernel_rfl) (fun _ _ _ h => h) (Or.inl ⟨by rfl, ?_⟩) (by assumption) ?_; rotate_left; (focus ((intro wS hSw); (try dsimp only at hSw); obtain ⟨s0, s1⟩ := hSw; go_simp; (try with_reducible rfl); done)); (try simp only [Act.put, List.setIfInBounds_toArray, List.set_cons_zero, List.set_cons_succ]))
  (refine takeH (i := 19) (v := ?_) rfl (by kernel_rfl) (by kernel_rfl) (by kernel_rfl) (fun _ _ _ h => h) (Or.inl ⟨by rfl, ?_⟩) (by assumption) ?_; rotate_left; (focus ((intro wS hSw); (try dsimp only at hSw); obtain ⟨s0, s1⟩ := hSw; go_simp; (try with_reducible rfl); done)); (try simp only [Act.put, List.setIfInBounds_toArray, List.set_cons_zero, List.set_cons_succ]))
  (refine takeH (i := 20) (v := ?_) rfl (by kernel_rfl) (by kernel_rfl) (by kernel_rfl) (fun _ _ _ h => h) (Or.inl ⟨by rfl, ?_⟩) (by assumption) ?_; rotate_left; (focus ((intro wS hSw); (try dsimp only at hSw); obtain ⟨s0, s1⟩ := hSw; go_simp; (try with_reducible rfl); done)); (try simp only [Act.put, List.setIfInBounds_toArray, List.set_cons_zero, List.set_cons_succ]))
  (refine takeH (i := 21) (v := .agg cx) rfl (by kernel_rfl) (by kernel_rfl) (by kernel_rfl) (fun _ _ _ h => h) (Or.inl ⟨by rfl, fun wS hSw => exec_load_row 28 (.tmp 2) rfl w.heap.size rfl 28 cx (0, 0) _ hSw.1 Try.underlying28 rfl HI.out.1⟩) (by assumption) ?_; (try simp only [Act.put, List.setIfInBounds_toArray, List.set_cons_zero, List.set_cons_succ]))
  (refine takeH (i := 22) (v := .agg cx) rfl (by kernel_rfl) (by kernel_rfl) (by kernel_rfl) (fun _ _ _ h => h) (Or.inl ⟨by rfl, fun wS hSw => exec_load_row 28 (.tmp 2) rfl w.heap.size rfl 28 cx (0, 0) _ hSw.1 Try.underlying28 rfl HI.out.1⟩) (by assumption) ?_; (try simp only [Act.put, List.setIfInBounds_toArray, List.set_cons_zero, List.set_cons_succ]))
  refine aloneH (i := 23) rfl (by kernel_rfl) (fun K hK => ?_)
  rw [if_pos (by rfl)]
  go_simp; ((refine (HS5.out _ (below_then HWd.out (below_then (below_then (below_then HB1.out HB2.out) HB3.out) HB4.out))).mono ?_); (rintro e w5 ⟨rfl, hb⟩); have HB5 := Lib.hid hb; clear hb; (try go_simp))
  refine hK.out _ _ (⟨heap_on HB5.out hHeld.1, heap_on HB5.out hHeld.2⟩) (fun hNew => ?_)
  clear hK K hHeld; (have hHeld := hNew); clear hNew; (try simp only [Act.put, List.setIfInBounds_toArray, List.set_cons_zero, List.set_cons_succ])
  (refine takeH (i := 24) (v := ?_) rfl (by kernel_rfl) (by kernel_rfl) (by kernel_rfl) (fun _ _ _ h => h) (Or.inl ⟨by rfl, ?_⟩) (by assumption) ?_; rotate_left; (focus ((intro wS hSw); (try dsimp only at hSw); obtain ⟨s0, s1⟩ := hSw; go_simp; (try with_reducible rfl); done)); (try simp only [Act.put, List.setIfInBounds_toArray, List.set_cons_zero, List.set_cons_succ]))
  (refine takeH (i := 25) (v := ?_) rfl (by kernel_rfl) (by kernel_rfl) (by kernel_rfl) (fun _ _ _ h => h) (Or.inl ⟨by rfl, ?_⟩) (by assumption) ?_; rotate_left; (focus ((intro wS hSw); (try dsimp only at hSw); obtain ⟨s0, s1⟩ := hSw; go_simp; (try with_reducible rfl); done)); (try simp only [Act.put, List.setIfInBounds_toArray, List.set_cons_zero, List.set_cons_succ]))
  (refine takeH (i := 26) (v := ?_) rfl (by kernel_rfl) (by kernel_rfl) (by kernel_rfl) (fun _ _ _ h => h) (Or.inl ⟨by rfl, ?_⟩) (by assumption) ?_; rotate_left; (focus ((intro wS hSw); (try dsimp only at hSw); obtain ⟨s0, s1⟩ := hSw; go_simp; (try with_reducible rfl); done)); (try simp only [Act.put, List.setIfInBounds_toArray, List.set_cons_zero, List.set_cons_succ]))
  (refine takeH (i := 27) (v := .agg #[q0, q1, q2, q3, q4, q5, q6, q7, q8]) rfl (by kernel_rfl) (by kernel_rfl) (by kernel_rfl) (fun _ _ _ h => h) (Or.inl ⟨by rfl, by (intro wS hSw); (have s0 := (cell_of_row wS (w.heap.size + 1) 13 _ _ _ hSw.2).trans HDy.out.1; have s1 := (cell_of_row wS (w.heap.size + 1) 14 _ _ _ hSw.2).trans HDy.out.2.1; have s2 := (cell_of_row wS (w.heap.size + 1) 15 _ _ _ hSw.2).trans HDy.out.2.2.1; have s3 := (cell_of_row wS (w.heap.size + 1) 16 _ _ _ hSw.2).trans HDy.out.2.2.2.1; have s4 := (cell_of_row wS (w.heap.size + 1) 17 _ _ _ hSw.2).trans HDy.out.2.2.2.2.1; have s5 := (cell_of_row wS (w.heap.size + 1) 18 _ _ _ hSw.2).trans HDy.out.2.2.2.2.2.1; have s6 := (cell_of_row wS (w.heap.size + 1) 19 _ _ _ hSw.2).trans HDy.out.2.2.2.2.2.2.1; have s7 := (cell_of_row wS (w.heap.size + 1) 20 _ _ _ hSw.2).trans HDy.out.2.2.2.2.2.2.2.1; have s8 := (cell_of_row wS (w.heap.size + 1) 21 _ _ _ hSw.2).trans HDy.out.2.2.2.2.2.2.2.2); go_simp; try rfl⟩) (by assumption) ?_; (try simp only [Act.put, List.setIfInBounds_toArray, List.set_cons_zero, List.set_cons_succ]))
  (refine takeH (i := 28) (v := ?_) rfl (by kernel_rfl) (by kernel_rfl) (by kernel_rfl) (fun _ _ _ h => h) (Or.inl ⟨by rfl, ?_⟩) (by assumption) ?_; rotate_left; (focus ((intro wS hSw); (try dsimp only at hSw); obtain ⟨s0, s1⟩ := hSw; go_simp; (try with_reducible rfl); done)); (try simp only [Act.put, List.setIfInBounds_toArray, List.set_cons_zero, List.set_cons_succ]))
  (refine takeH (i := 29) (v := .agg #[q0, q1, q2, q3, q4, q5, q6, q7, q8]) rfl (by kernel_rfl) (by kernel_rfl) (by kernel_rfl) (fun _ _ _ h => h) (Or.inl ⟨by rfl, by (intro wS hSw); (have s0 := (cell_of_row wS (w.heap.size + 1) 13 _ _ _ hSw.2).trans HDy.out.1; have s1 := (cell_of_row wS (w.heap.size + 1) 14 _ _ _ hSw.2).trans HDy.out.2.1; have s2 := (cell_of_row wS (w.heap.size + 1) 15 _ _ _ hSw.2).trans HDy.out.2.2.1; have s3 := (cell_of_row wS (w.heap.size + 1) 16 _ _ _ hSw.2).trans HDy.out.2.2.2.1; have s4 := (cell_of_row wS (w.heap.size + 1) 17 _ _ _ hSw.2).trans HDy.out.2.2.2.2.1; have s5 := (cell_of_row wS (w.heap.size + 1) 18 _ _ _ hSw.2).trans HDy.out.2.2.2.2.2.1; have s6 := (cell_of_row wS (w.heap.size + 1) 19 _ _ _ hSw.2).trans HDy.out.2.2.2.2.2.2.1; have s7 := (cell_of_row wS (w.heap.size + 1) 20 _ _ _ hSw.2).trans HDy.out.2.2.2.2.2.2.2.1; have s8 := (cell_of_row wS (w.heap.size + 1) 21 _ _ _ hSw.2).trans HDy.out.2.2.2.2.2.2.2.2); go_simp; try rfl⟩) (by assumption) ?_; (try simp only [Act.put, List.setIfInBounds_toArray, List.set_cons_zero, List.set_cons_succ]))
  refine aloneH (i := 30) rfl (by kernel_rfl) (fun K hK => ?_)
  rw [if_pos (by rfl)]
  go_simp; ((refine (HS6.out _ (below_then HWd.out (below_then (below_then (below_then (below_then HB1.out HB2.out) HB3.out) HB4.out) HB5.out))).mono ?_); (rintro e w6 ⟨rfl, hb⟩); have HB6 := Lib.hid hb; clear hb; (try go_simp))
  refine hK.out _ _ (⟨heap_on HB6.out hHeld.1, heap_on HB6.out hHeld.2⟩) (fun hNew => ?_)
  clear hK K hHeld; (have hHeld := hNew); clear hNew; (try simp only [Act.put, List.setIfInBounds_toArray, List.set_cons_zero, List.set_cons_succ])
  (refine takeH (i := 31) (v := ?_) rfl (by kernel_rfl) (by kernel_rfl) (by kernel_rfl) (fun _ _ _ h => h) (Or.inl ⟨by rfl, ?_⟩) (by assumption) ?_; rotate_left; (focus ((intro wS hSw); (try dsimp only at hSw); obtain ⟨s0, s1⟩ := hSw; go_simp; (try with_reducible rfl); done)); (try simp only [Act.put, List.setIfInBounds_toArray, List.set_cons_zero, List.set_cons_succ]))
  (refine takeH (i := 32) (v := ?_) rfl (by kernel_rfl) (by kernel_rfl) (by kernel_rfl) (fun _ _ _ h => h) (Or.inl ⟨by rfl, ?_⟩) (by assumption) ?_; rotate_left; (focus ((intro wS hSw); (try dsimp only at hSw); obtain ⟨s0, s1⟩ := hSw; go_simp; (try with_reducible rfl); done)); (try simp only [Act.put, List.setIfInBounds_toArray, List.set_cons_zero, List.set_cons_succ]))
  refine aloneH (i := 33) rfl (by kernel_rfl) (fun K hK => ?_)
  rw [if_pos (by rfl)]
  go_simp; ((refine (HS7.out _ (below_then HWd.out (below_then (below_then (below_then (below_then (below_then HB1.out HB2.out) HB3.out) HB4.out) HB5.out) HB6.out))).mono ?_); (rintro e w7 ⟨rfl, hb⟩); have HB7 := Lib.hid hb; clear hb; (try go_simp))
  refine hK.out _ _ (⟨heap_on HB7.out hHeld.1, heap_on HB7.out hHeld.2⟩) (fun hNew => ?_)
  clear hK K hHeld; (have hHeld := hNew); clear hNew; (try simp only [Act.put, List.setIfInBounds_toArray, List.set_cons_zero, List.set_cons_succ])
  (refine takeH (i := 34) (v := ?_) rfl (by kernel_rfl) (by kernel_rfl) (by kernel_rfl) (fun _ _ _ h => h) (Or.inl ⟨by rfl, ?_⟩) (by assumption) ?_; rotate_left; (focus ((intro wS hSw); (try dsimp only at hSw); obtain ⟨s0, s1⟩ := hSw; go_simp; (try with_reducible rfl); done)); (try simp only [Act.put, List.setIfInBounds_toArray, List.set_cons_zero, List.set_cons_succ]))
  (refine takeH (i := 35) (v := ?_) rfl (by kernel_rfl) (by kernel_rfl) (by kernel_rfl) (fun _ _ _ h => h) (Or.inl ⟨by rfl, ?_⟩) (by assumption) ?_; rotate_left; (focus ((intro wS hSw); (try dsimp only at hSw); obtain ⟨s0, s1⟩ := hSw; go_simp; (try with_reducible rfl); done)); (try simp only [Act.put, List.setIfInBounds_toArray, List.set_cons_zero, List.set_cons_succ]))
  refine wpAnyH_done (by kernel_rfl) ?_ _
  clear hHeld
  go_wp2
  go_ret
  exact ⟨by simp, below_then HWd.out (below_then (below_then (below_then (below_then (below_then (below_then HB1.out HB2.out) HB3.out) HB4.out) HB5.out) HB6.out) HB7.out)⟩
end Go.Proofs.Ytplghpamckdklaa
