/- What may be: the walk through the statement. What came in is not larger than the reach. Contracts of the library, as they are at this program: laid by the guide's tool, in plain words. -/
import Derived.Test.YtplghpamckdklaaGreatQ27
import Derived.Test.YtplghpamckdklaaGreatQ46
import Derived.Test.YtplghpamckdklaaGreatQ4
import Derived.Test.YtplghpamckdklaaGreatQ8
import Derived.Test.YtplghpamckdklaaGreatQ44
import Derived.Deep.Cut
import Derived.Deep.DeepCutAuto
import Derived.Laws.CopyOwn
import Derived.Test.YtplghpamckdklaaGreatQ3
import Derived.Shelf.Strings.Builder1
import Derived.Shelf.Strings.Builder2
import Derived.Shelf.Small.Bits
import Derived.Shelf.Strings.Search1
import Derived.Shelf.Strings.Search2
import Derived.Shelf.Strings.Search3
import Derived.Shelf.LaysM
import Derived.Shelf.Strings.Shaped
import Derived.Shelf.Strings.Prefix
import Derived.Shelf.Bits.Mul64
import Derived.Shelf.Strings.Repeat
import Derived.Test.YtplghpamckdklaaGreatProg
namespace Go.Proofs.YtplghpamckdklaaGreat
open Go.RowKit
set_option maxRecDepth 100000
set_option linter.unusedSimpArgs false
set_option linter.unusedVariables false

set_option maxHeartbeats 4000000 in
theorem good_long1 (cs : Array Value) (l : LineV) (sale : Bool)  (w : World) (hsx : cs.size = 22) (hl : l.2.2.1.size ≤ 140737488351232 ∧ l.2.2.2.1.size ≤ 140737488351232 ∧ l.2.2.2.2.1.size ≤ 140737488351232) (HLx : Hid (∀ W, Below w.heap.size w W → Calls Tryz.prog 6 #[.agg cs] W fun e w1 => e = .returned (.bool false) ∧ Below W.heap.size W w1)) (HS7 : Hid (∀ W, Below w.heap.size w W → Calls Tryz.prog 7 #[] W fun e w1 => e = .returned (.bool true) ∧ Below W.heap.size W w1)) : Calls Tryz.prog 3 #[.agg cs, .agg #[.int .i64 l.1, .int .i64 l.2.1, .string l.2.2.1, .string l.2.2.2.1, .string l.2.2.2.2.1, .int .i64 l.2.2.2.2.2.1, .bool l.2.2.2.2.2.2.1, .int .i64 l.2.2.2.2.2.2.2.1, .bool l.2.2.2.2.2.2.2.2], .bool sale] w fun e w1 => e = .returned (.bool true) ∧ Below w.heap.size w w1 := by
  have h1 := heap_alloc_new w (.cells cs 28)
  have h2 := heap_alloc_new (w.alloc (.cells cs 28)) (.cells #[.int .i64 l.1, .int .i64 l.2.1, .string l.2.2.1, .string l.2.2.2.1, .string l.2.2.2.2.1, .int .i64 l.2.2.2.2.2.1, .bool l.2.2.2.2.2.2.1, .int .i64 l.2.2.2.2.2.2.2.1, .bool l.2.2.2.2.2.2.2.2] 30)
  simp only [World.size_alloc] at h2
  have HX := Lib.hid (heap_on (below_alloc (w.alloc (.cells cs 28)) (.cells #[.int .i64 l.1, .int .i64 l.2.1, .string l.2.2.1, .string l.2.2.2.1, .string l.2.2.2.2.1, .int .i64 l.2.2.2.2.2.1, .bool l.2.2.2.2.2.2.1, .int .i64 l.2.2.2.2.2.2.2.1, .bool l.2.2.2.2.2.2.2.2] 30)) h1)
  have HY := Lib.hid h2
  have HB0 := Lib.hid (show Below w.heap.size w ((w.alloc (.cells cs 28)).alloc (.cells #[.int .i64 l.1, .int .i64 l.2.1, .string l.2.2.1, .string l.2.2.2.1, .string l.2.2.2.2.1, .int .i64 l.2.2.2.2.2.1, .bool l.2.2.2.2.2.2.1, .int .i64 l.2.2.2.2.2.2.2.1, .bool l.2.2.2.2.2.2.2.2] 30)) from below_more (below_alloc _ _))
  have HI := Lib.hid (cmd_info hsx)
  have i1 : (l.2.2.1.size : Int) ≤ 140737488351232 := by omega
  have i2 : (l.2.2.2.1.size : Int) ≤ 140737488351232 := by omega
  have i3 : (l.2.2.2.2.1.size : Int) ≤ 140737488351232 := by omega
  clear h1 h2 hsx hl
  go_enter Tryz.func3, Tryz.ntmps3
  go_upto_region 1 with fail
  generalize hx : World.alloc (World.alloc w _) _ = wb at HX HY HB0 ⊢
  clear hx
  go_wp2_with ((with_reducible refine wpList_load_row (o := ⟨some 7, _, _, _, _, _⟩) ?a1 28 (.tmp 3) ?a2 w.heap.size ?a3 28 cs (0, 0) _ HX.out Tryz.underlying28 ?a4 HI.out ?_); (case a1 => rfl); (case a2 => rfl); (case a3 => rfl); (case a4 => rfl); refine Stop.out ?_)
  unfold Stop
  go_wp2_with (go_at_call 6; refine (HLx.out _ HB0.out).mono ?_; rintro e w1 ⟨rfl, hb⟩; have HB1 := Lib.hid (below_then HB0.out hb); have HX1 := Lib.hid (heap_on hb HX.out); have HY1 := Lib.hid (heap_on hb HY.out); clear hb; refine Stop.out ?_)
  unfold Stop
  go_wp2_with (go_at_call 7; refine (HS7.out _ HB1.out).mono ?_; rintro e w9 ⟨rfl, hb⟩; have HB9 := Lib.hid (below_then HB1.out hb); clear hb; refine Stop.out ?_)
  unfold Stop
  go_wp2
  go_ret
  exact ⟨rfl, HB9.out⟩
set_option maxHeartbeats 4000000 in
theorem good_long2 (cs : Array Value) (l : LineV) (sale : Bool)  (w : World) (hsx : cs.size = 22) (hl : l.2.2.1.size ≤ 140737488351232 ∧ l.2.2.2.1.size ≤ 140737488351232 ∧ l.2.2.2.2.1.size ≤ 140737488351232) (hlong : ¬ ((l.2.2.1.size : Int) + (l.2.2.2.1.size : Int) + (l.2.2.2.2.1.size : Int) ≤ 300)) (HLx : Hid (∀ W, Below w.heap.size w W → Calls Tryz.prog 6 #[.agg cs] W fun e w1 => e = .returned (.bool true) ∧ Below W.heap.size W w1)) (HS7 : Hid (∀ W, Below w.heap.size w W → Calls Tryz.prog 7 #[] W fun e w1 => e = .returned (.bool true) ∧ Below W.heap.size W w1)) : Calls Tryz.prog 3 #[.agg cs, .agg #[.int .i64 l.1, .int .i64 l.2.1, .string l.2.2.1, .string l.2.2.2.1, .string l.2.2.2.2.1, .int .i64 l.2.2.2.2.2.1, .bool l.2.2.2.2.2.2.1, .int .i64 l.2.2.2.2.2.2.2.1, .bool l.2.2.2.2.2.2.2.2], .bool sale] w fun e w1 => e = .returned (.bool true) ∧ Below w.heap.size w w1 := by
  have h1 := heap_alloc_new w (.cells cs 28)
  have h2 := heap_alloc_new (w.alloc (.cells cs 28)) (.cells #[.int .i64 l.1, .int .i64 l.2.1, .string l.2.2.1, .string l.2.2.2.1, .string l.2.2.2.2.1, .int .i64 l.2.2.2.2.2.1, .bool l.2.2.2.2.2.2.1, .int .i64 l.2.2.2.2.2.2.2.1, .bool l.2.2.2.2.2.2.2.2] 30)
  simp only [World.size_alloc] at h2
  have HX := Lib.hid (heap_on (below_alloc (w.alloc (.cells cs 28)) (.cells #[.int .i64 l.1, .int .i64 l.2.1, .string l.2.2.1, .string l.2.2.2.1, .string l.2.2.2.2.1, .int .i64 l.2.2.2.2.2.1, .bool l.2.2.2.2.2.2.1, .int .i64 l.2.2.2.2.2.2.2.1, .bool l.2.2.2.2.2.2.2.2] 30)) h1)
  have HY := Lib.hid h2
  have HB0 := Lib.hid (show Below w.heap.size w ((w.alloc (.cells cs 28)).alloc (.cells #[.int .i64 l.1, .int .i64 l.2.1, .string l.2.2.1, .string l.2.2.2.1, .string l.2.2.2.2.1, .int .i64 l.2.2.2.2.2.1, .bool l.2.2.2.2.2.2.1, .int .i64 l.2.2.2.2.2.2.2.1, .bool l.2.2.2.2.2.2.2.2] 30)) from below_more (below_alloc _ _))
  have HI := Lib.hid (cmd_info hsx)
  have i1 : (l.2.2.1.size : Int) ≤ 140737488351232 := by omega
  have i2 : (l.2.2.2.1.size : Int) ≤ 140737488351232 := by omega
  have i3 : (l.2.2.2.2.1.size : Int) ≤ 140737488351232 := by omega
  clear h1 h2 hsx hl
  go_enter Tryz.func3, Tryz.ntmps3
  go_upto_region 1 with fail
  generalize hx : World.alloc (World.alloc w _) _ = wb at HX HY HB0 ⊢
  clear hx
  go_wp2_with ((with_reducible refine wpList_load_row (o := ⟨some 7, _, _, _, _, _⟩) ?a1 28 (.tmp 3) ?a2 w.heap.size ?a3 28 cs (0, 0) _ HX.out Tryz.underlying28 ?a4 HI.out ?_); (case a1 => rfl); (case a2 => rfl); (case a3 => rfl); (case a4 => rfl); refine Stop.out ?_)
  unfold Stop
  go_wp2_with (go_at_call 6; refine (HLx.out _ HB0.out).mono ?_; rintro e w1 ⟨rfl, hb⟩; have HB1 := Lib.hid (below_then HB0.out hb); have HX1 := Lib.hid (heap_on hb HX.out); have HY1 := Lib.hid (heap_on hb HY.out); clear hb; have hy := HY1.out; obtain ⟨u0, u1, u2, u3, u4, u5, u6, u7, u8⟩ := cellsLineV hy; clear hy; refine Stop.out ?_)
  unfold Stop
  go_wp2_with (go_at_call 7; refine (HS7.out _ HB1.out).mono ?_; rintro e w9 ⟨rfl, hb⟩; have HB9 := Lib.hid (below_then HB1.out hb); clear hb; refine Stop.out ?_)
  unfold Stop
  go_wp2
  go_ret
  exact ⟨rfl, HB9.out⟩
set_option maxHeartbeats 4000000 in
theorem good_walk (cs : Array Value) (l : LineV) (sale : Bool) (p0 p1 p2 p3 p4 p5 p6 p7 p8 : Value) (b1 b2 b3 : Bool) (w : World) (hsx : cs.size = 22) (hl : l.2.2.1.size ≤ 140737488351232 ∧ l.2.2.2.1.size ≤ 140737488351232 ∧ l.2.2.2.2.1.size ≤ 140737488351232) (hshort : (l.2.2.1.size : Int) + (l.2.2.2.1.size : Int) + (l.2.2.2.2.1.size : Int) ≤ 300) (HLx : Hid (∀ W, Below w.heap.size w W → Calls Tryz.prog 6 #[.agg cs] W fun e w1 => e = .returned (.bool true) ∧ Below W.heap.size W w1)) (HS1 : Hid (∀ W, Below w.heap.size w W → Calls Tryz.prog 8 #[.agg cs] W fun e w1 => e = .returned (.bool b1) ∧ Below W.heap.size W w1)) (HS2 : Hid (∀ W, Below w.heap.size w W → Calls Tryz.prog 9 #[.agg cs] W fun e w1 => e = .returned (.bool b1) ∧ Below W.heap.size W w1)) (HS3 : Hid (∀ W, Below w.heap.size w W → Calls Tryz.prog 10 #[.agg #[p0, p1, p2, p3, p4, p5, p6, p7, p8]] W fun e w1 => e = .returned (.bool b2) ∧ Below W.heap.size W w1)) (HS4 : Hid (∀ W, Below w.heap.size w W → Calls Tryz.prog 11 #[.agg #[p0, p1, p2, p3, p4, p5, p6, p7, p8]] W fun e w1 => e = .returned (.bool b2) ∧ Below W.heap.size W w1)) (HS5 : Hid (∀ W, Below w.heap.size w W → Calls Tryz.prog 12 #[.agg #[.int .i64 l.1, .int .i64 l.2.1, .string l.2.2.1, .string l.2.2.2.1, .string l.2.2.2.2.1, .int .i64 l.2.2.2.2.2.1, .bool l.2.2.2.2.2.2.1, .int .i64 l.2.2.2.2.2.2.2.1, .bool l.2.2.2.2.2.2.2.2], .bool sale] W fun e w1 => e = .returned (.bool b3) ∧ Below W.heap.size W w1)) (HS6 : Hid (∀ W, Below w.heap.size w W → Calls Tryz.prog 13 #[.agg #[.int .i64 l.1, .int .i64 l.2.1, .string l.2.2.1, .string l.2.2.2.1, .string l.2.2.2.2.1, .int .i64 l.2.2.2.2.2.1, .bool l.2.2.2.2.2.2.1, .int .i64 l.2.2.2.2.2.2.2.1, .bool l.2.2.2.2.2.2.2.2], .bool sale] W fun e w1 => e = .returned (.bool b3) ∧ Below W.heap.size W w1)) (HS7 : Hid (∀ W, Below w.heap.size w W → Calls Tryz.prog 7 #[] W fun e w1 => e = .returned (.bool true) ∧ Below W.heap.size W w1)) (HDx : Hid (cs[13]? = some p0 ∧ cs[14]? = some p1 ∧ cs[15]? = some p2 ∧ cs[16]? = some p3 ∧ cs[17]? = some p4 ∧ cs[18]? = some p5 ∧ cs[19]? = some p6 ∧ cs[20]? = some p7 ∧ cs[21]? = some p8)) : Calls Tryz.prog 3 #[.agg cs, .agg #[.int .i64 l.1, .int .i64 l.2.1, .string l.2.2.1, .string l.2.2.2.1, .string l.2.2.2.2.1, .int .i64 l.2.2.2.2.2.1, .bool l.2.2.2.2.2.2.1, .int .i64 l.2.2.2.2.2.2.2.1, .bool l.2.2.2.2.2.2.2.2], .bool sale] w fun e w1 => e = .returned (.bool true) ∧ Below w.heap.size w w1 := by
  have h1 := heap_alloc_new w (.cells cs 28)
  have h2 := heap_alloc_new (w.alloc (.cells cs 28)) (.cells #[.int .i64 l.1, .int .i64 l.2.1, .string l.2.2.1, .string l.2.2.2.1, .string l.2.2.2.2.1, .int .i64 l.2.2.2.2.2.1, .bool l.2.2.2.2.2.2.1, .int .i64 l.2.2.2.2.2.2.2.1, .bool l.2.2.2.2.2.2.2.2] 30)
  simp only [World.size_alloc] at h2
  have HX := Lib.hid (heap_on (below_alloc (w.alloc (.cells cs 28)) (.cells #[.int .i64 l.1, .int .i64 l.2.1, .string l.2.2.1, .string l.2.2.2.1, .string l.2.2.2.2.1, .int .i64 l.2.2.2.2.2.1, .bool l.2.2.2.2.2.2.1, .int .i64 l.2.2.2.2.2.2.2.1, .bool l.2.2.2.2.2.2.2.2] 30)) h1)
  have HY := Lib.hid h2
  have HB0 := Lib.hid (show Below w.heap.size w ((w.alloc (.cells cs 28)).alloc (.cells #[.int .i64 l.1, .int .i64 l.2.1, .string l.2.2.1, .string l.2.2.2.1, .string l.2.2.2.2.1, .int .i64 l.2.2.2.2.2.1, .bool l.2.2.2.2.2.2.1, .int .i64 l.2.2.2.2.2.2.2.1, .bool l.2.2.2.2.2.2.2.2] 30)) from below_more (below_alloc _ _))
  have HI := Lib.hid (cmd_info hsx)
  have i1 : (l.2.2.1.size : Int) ≤ 140737488351232 := by omega
  have i2 : (l.2.2.2.1.size : Int) ≤ 140737488351232 := by omega
  have i3 : (l.2.2.2.2.1.size : Int) ≤ 140737488351232 := by omega
  clear h1 h2 hsx hl
  go_enter Tryz.func3, Tryz.ntmps3
  go_upto_region 1 with fail
  generalize hx : World.alloc (World.alloc w _) _ = wb at HX HY HB0 ⊢
  clear hx
  go_wp2_with ((with_reducible refine wpList_load_row (o := ⟨some 7, _, _, _, _, _⟩) ?a1 28 (.tmp 3) ?a2 w.heap.size ?a3 28 cs (0, 0) _ HX.out Tryz.underlying28 ?a4 HI.out ?_); (case a1 => rfl); (case a2 => rfl); (case a3 => rfl); (case a4 => rfl); refine Stop.out ?_)
  unfold Stop
  go_wp2_with (go_at_call 6; refine (HLx.out _ HB0.out).mono ?_; rintro e w1 ⟨rfl, hb⟩; have HB1 := Lib.hid (below_then HB0.out hb); have HX1 := Lib.hid (heap_on hb HX.out); have HY1 := Lib.hid (heap_on hb HY.out); clear hb; have hy := HY1.out; obtain ⟨u0, u1, u2, u3, u4, u5, u6, u7, u8⟩ := cellsLineV hy; clear hy; refine Stop.out ?_)
  unfold Stop
  have HHd := Lib.hid (And.intro (heap_on (below_drew w1) HX1.out) (heap_on (below_drew w1) HY1.out))
  have HWd := Lib.hid (below_then HB1.out (below_drew w1))
  clear HX HY HX1 HY1 HB0 HB1
  go_wp2
  clear u0 u1 u2 u3 u4 u5 u6 u7 u8
  refine wp_region_held_drew (S := fun V => V.heap[w.heap.size]? = some (.cells cs 28 (0, 0)) ∧ V.heap[w.heap.size + 1]? = some (.cells #[.int .i64 l.1, .int .i64 l.2.1, .string l.2.2.1, .string l.2.2.2.1, .string l.2.2.2.2.1, .int .i64 l.2.2.2.2.2.1, .bool l.2.2.2.2.2.2.1, .int .i64 l.2.2.2.2.2.2.2.1, .bool l.2.2.2.2.2.2.2.2] 30 (0, 0))) (by kernel_rfl) HHd.out ?_
  intro hHeld
  clear HHd
  generalize World.drew _ = wd at HWd hHeld ⊢
  (refine takeH (i := 0) (v := .agg cs) rfl (by kernel_rfl) (by kernel_rfl) (by kernel_rfl) (fun _ _ _ h => h) (Or.inl ⟨by rfl, fun wS hSw => exec_load_row 28 (.tmp 3) rfl w.heap.size rfl 28 cs (0, 0) _ hSw.1 Tryz.underlying28 rfl HI.out⟩) (by assumption) ?_; (try simp only [Act.put, List.setIfInBounds_toArray, List.set_cons_zero, List.set_cons_succ]))
  (refine takeH (i := 2) (v := .agg cs) rfl (by kernel_rfl) (by kernel_rfl) (by kernel_rfl) (fun _ _ _ h => h) (Or.inl ⟨by rfl, fun wS hSw => exec_load_row 28 (.tmp 3) rfl w.heap.size rfl 28 cs (0, 0) _ hSw.1 Tryz.underlying28 rfl HI.out⟩) (by assumption) ?_; (try simp only [Act.put, List.setIfInBounds_toArray, List.set_cons_zero, List.set_cons_succ]))
  refine aloneH (i := 1) rfl (by kernel_rfl) (fun K hK => ?_)
  rw [if_pos (by rfl)]
  go_simp; ((refine (HS1.out _ (below_then HWd.out (below_same wd))).mono ?_); (rintro e w3 ⟨rfl, hb⟩); have HC1 := Lib.hid hb; clear hb; (try go_simp))
  refine hK.out _ _ (⟨heap_on HC1.out hHeld.1, heap_on HC1.out hHeld.2⟩) (fun hNew => ?_)
  clear hK K hHeld; (have hHeld := hNew); clear hNew; (try simp only [Act.put, List.setIfInBounds_toArray, List.set_cons_zero, List.set_cons_succ])
  refine aloneH (i := 3) rfl (by kernel_rfl) (fun K hK => ?_)
  rw [if_pos (by rfl)]
  go_simp; ((refine (HS2.out _ (below_then HWd.out HC1.out)).mono ?_); (rintro e w4 ⟨rfl, hb⟩); have HC2 := Lib.hid hb; clear hb; (try go_simp))
  refine hK.out _ _ (⟨heap_on HC2.out hHeld.1, heap_on HC2.out hHeld.2⟩) (fun hNew => ?_)
  clear hK K hHeld; (have hHeld := hNew); clear hNew; (try simp only [Act.put, List.setIfInBounds_toArray, List.set_cons_zero, List.set_cons_succ])
  (refine takeH (i := 4) (v := ?_) rfl (by kernel_rfl) (by kernel_rfl) (by kernel_rfl) (fun _ _ _ h => h) (Or.inl ⟨by rfl, ?_⟩) (by assumption) ?_; rotate_left; (focus ((intro wS hSw); (try dsimp only at hSw); obtain ⟨s0, s1⟩ := hSw; go_simp; (try with_reducible rfl); done)); (try simp only [Act.put, List.setIfInBounds_toArray, List.set_cons_zero, List.set_cons_succ]))
  (refine takeH (i := 5) (v := ?_) rfl (by kernel_rfl) (by kernel_rfl) (by kernel_rfl) (fun _ _ _ h => h) (Or.inl ⟨by rfl, ?_⟩) (by assumption) ?_; rotate_left; (focus ((intro wS hSw); (try dsimp only at hSw); obtain ⟨s0, s1⟩ := hSw; go_simp; (try with_reducible rfl); done)); (try simp only [Act.put, List.setIfInBounds_toArray, List.set_cons_zero, List.set_cons_succ]))
  (refine takeH (i := 6) (v := ?_) rfl (by kernel_rfl) (by kernel_rfl) (by kernel_rfl) (fun _ _ _ h => h) (Or.inl ⟨by rfl, ?_⟩) (by assumption) ?_; rotate_left; (focus ((intro wS hSw); (try dsimp only at hSw); obtain ⟨s0, s1⟩ := hSw; go_simp; (try with_reducible rfl); done)); (try simp only [Act.put, List.setIfInBounds_toArray, List.set_cons_zero, List.set_cons_succ]))
  (refine takeH (i := 7) (v := .agg #[p0, p1, p2, p3, p4, p5, p6, p7, p8]) rfl (by kernel_rfl) (by kernel_rfl) (by kernel_rfl) (fun _ _ _ h => h) (Or.inl ⟨by rfl, by (intro wS hSw); (have s0 := (cell_of_row wS w.heap.size 13 _ _ _ hSw.1).trans HDx.out.1; have s1 := (cell_of_row wS w.heap.size 14 _ _ _ hSw.1).trans HDx.out.2.1; have s2 := (cell_of_row wS w.heap.size 15 _ _ _ hSw.1).trans HDx.out.2.2.1; have s3 := (cell_of_row wS w.heap.size 16 _ _ _ hSw.1).trans HDx.out.2.2.2.1; have s4 := (cell_of_row wS w.heap.size 17 _ _ _ hSw.1).trans HDx.out.2.2.2.2.1; have s5 := (cell_of_row wS w.heap.size 18 _ _ _ hSw.1).trans HDx.out.2.2.2.2.2.1; have s6 := (cell_of_row wS w.heap.size 19 _ _ _ hSw.1).trans HDx.out.2.2.2.2.2.2.1; have s7 := (cell_of_row wS w.heap.size 20 _ _ _ hSw.1).trans HDx.out.2.2.2.2.2.2.2.1; have s8 := (cell_of_row wS w.heap.size 21 _ _ _ hSw.1).trans HDx.out.2.2.2.2.2.2.2.2); go_simp; try rfl⟩) (by assumption) ?_; (try simp only [Act.put, List.setIfInBounds_toArray, List.set_cons_zero, List.set_cons_succ]))
  (refine takeH (i := 9) (v := ?_) rfl (by kernel_rfl) (by kernel_rfl) (by kernel_rfl) (fun _ _ _ h => h) (Or.inl ⟨by rfl, ?_⟩) (by assumption) ?_; rotate_left; (focus ((intro wS hSw); (try dsimp only at hSw); obtain ⟨s0, s1⟩ := hSw; go_simp; (try with_reducible rfl); done)); (try simp only [Act.put, List.setIfInBounds_toArray, List.set_cons_zero, List.set_cons_succ]))
  (refine takeH (i := 10) (v := .agg #[p0, p1, p2, p3, p4, p5, p6, p7, p8]) rfl (by kernel_rfl) (by kernel_rfl) (by kernel_rfl) (fun _ _ _ h => h) (Or.inl ⟨by rfl, by (intro wS hSw); (have s0 := (cell_of_row wS w.heap.size 13 _ _ _ hSw.1).trans HDx.out.1; have s1 := (cell_of_row wS w.heap.size 14 _ _ _ hSw.1).trans HDx.out.2.1; have s2 := (cell_of_row wS w.heap.size 15 _ _ _ hSw.1).trans HDx.out.2.2.1; have s3 := (cell_of_row wS w.heap.size 16 _ _ _ hSw.1).trans HDx.out.2.2.2.1; have s4 := (cell_of_row wS w.heap.size 17 _ _ _ hSw.1).trans HDx.out.2.2.2.2.1; have s5 := (cell_of_row wS w.heap.size 18 _ _ _ hSw.1).trans HDx.out.2.2.2.2.2.1; have s6 := (cell_of_row wS w.heap.size 19 _ _ _ hSw.1).trans HDx.out.2.2.2.2.2.2.1; have s7 := (cell_of_row wS w.heap.size 20 _ _ _ hSw.1).trans HDx.out.2.2.2.2.2.2.2.1; have s8 := (cell_of_row wS w.heap.size 21 _ _ _ hSw.1).trans HDx.out.2.2.2.2.2.2.2.2); go_simp; try rfl⟩) (by assumption) ?_; (try simp only [Act.put, List.setIfInBounds_toArray, List.set_cons_zero, List.set_cons_succ]))
  refine aloneH (i := 8) rfl (by kernel_rfl) (fun K hK => ?_)
  rw [if_pos (by rfl)]
  go_simp; ((refine (HS3.out _ (below_then HWd.out (below_then HC1.out HC2.out))).mono ?_); (rintro e w5 ⟨rfl, hb⟩); have HC3 := Lib.hid hb; clear hb; (try go_simp))
  refine hK.out _ _ (⟨heap_on HC3.out hHeld.1, heap_on HC3.out hHeld.2⟩) (fun hNew => ?_)
  clear hK K hHeld; (have hHeld := hNew); clear hNew; (try simp only [Act.put, List.setIfInBounds_toArray, List.set_cons_zero, List.set_cons_succ])
  refine aloneH (i := 11) rfl (by kernel_rfl) (fun K hK => ?_)
  rw [if_pos (by rfl)]
  go_simp; ((refine (HS4.out _ (below_then HWd.out (below_then (below_then HC1.out HC2.out) HC3.out))).mono ?_); (rintro e w6 ⟨rfl, hb⟩); have HC4 := Lib.hid hb; clear hb; (try go_simp))
  refine hK.out _ _ (⟨heap_on HC4.out hHeld.1, heap_on HC4.out hHeld.2⟩) (fun hNew => ?_)
  clear hK K hHeld; (have hHeld := hNew); clear hNew; (try simp only [Act.put, List.setIfInBounds_toArray, List.set_cons_zero, List.set_cons_succ])
  (refine takeH (i := 12) (v := ?_) rfl (by kernel_rfl) (by kernel_rfl) (by kernel_rfl) (fun _ _ _ h => h) (Or.inl ⟨by rfl, ?_⟩) (by assumption) ?_; rotate_left; (focus ((intro wS hSw); (try dsimp only at hSw); obtain ⟨s0, s1⟩ := hSw; go_simp; (try with_reducible rfl); done)); (try simp only [Act.put, List.setIfInBounds_toArray, List.set_cons_zero, List.set_cons_succ]))
  (refine takeH (i := 13) (v := ?_) rfl (by kernel_rfl) (by kernel_rfl) (by kernel_rfl) (fun _ _ _ h => h) (Or.inl ⟨by rfl, ?_⟩) (by assumption) ?_; rotate_left; (focus ((intro wS hSw); (try dsimp only at hSw); obtain ⟨s0, s1⟩ := hSw; go_simp; (try with_reducible rfl); done)); (try simp only [Act.put, List.setIfInBounds_toArray, List.set_cons_zero, List.set_cons_succ]))
  (refine takeH (i := 14) (v := ?_) rfl (by kernel_rfl) (by kernel_rfl) (by kernel_rfl) (fun _ _ _ h => h) (Or.inl ⟨by rfl, ?_⟩) (by assumption) ?_; rotate_left; (focus ((intro wS hSw); (try dsimp only at hSw); obtain ⟨s0, s1⟩ := hSw; go_simp; (try with_reducible rfl); done)); (try simp only [Act.put, List.setIfInBounds_toArray, List.set_cons_zero, List.set_cons_succ]))
  (refine takeH (i := 15) (v := .agg #[.int .i64 l.1, .int .i64 l.2.1, .string l.2.2.1, .string l.2.2.2.1, .string l.2.2.2.2.1, .int .i64 l.2.2.2.2.2.1, .bool l.2.2.2.2.2.2.1, .int .i64 l.2.2.2.2.2.2.2.1, .bool l.2.2.2.2.2.2.2.2]) rfl (by kernel_rfl) (by kernel_rfl) (by kernel_rfl) (fun _ _ _ h => h) (Or.inl ⟨by rfl, fun wS hSw => exec_load_row 30 (.tmp 4) rfl (w.heap.size + 1) rfl 30 #[.int .i64 l.1, .int .i64 l.2.1, .string l.2.2.1, .string l.2.2.2.1, .string l.2.2.2.2.1, .int .i64 l.2.2.2.2.2.1, .bool l.2.2.2.2.2.2.1, .int .i64 l.2.2.2.2.2.2.2.1, .bool l.2.2.2.2.2.2.2.2] (0, 0) _ hSw.2 Tryz.underlying30 rfl (by kernel_rfl)⟩) (by assumption) ?_; (try simp only [Act.put, List.setIfInBounds_toArray, List.set_cons_zero, List.set_cons_succ]))
  (refine takeH (i := 16) (v := ?_) rfl (by kernel_rfl) (by kernel_rfl) (by kernel_rfl) (fun _ _ _ h => h) (Or.inl ⟨by rfl, ?_⟩) (by assumption) ?_; rotate_left; (focus ((intro wS hSw); (try dsimp only at hSw); obtain ⟨s0, s1⟩ := hSw; go_simp; (try with_reducible rfl); done)); (try simp only [Act.put, List.setIfInBounds_toArray, List.set_cons_zero, List.set_cons_succ]))
  (refine takeH (i := 18) (v := .agg #[.int .i64 l.1, .int .i64 l.2.1, .string l.2.2.1, .string l.2.2.2.1, .string l.2.2.2.2.1, .int .i64 l.2.2.2.2.2.1, .bool l.2.2.2.2.2.2.1, .int .i64 l.2.2.2.2.2.2.2.1, .bool l.2.2.2.2.2.2.2.2]) rfl (by kernel_rfl) (by kernel_rfl) (by kernel_rfl) (fun _ _ _ h => h) (Or.inl ⟨by rfl, fun wS hSw => exec_load_row 30 (.tmp 4) rfl (w.heap.size + 1) rfl 30 #[.int .i64 l.1, .int .i64 l.2.1, .string l.2.2.1, .string l.2.2.2.1, .string l.2.2.2.2.1, .int .i64 l.2.2.2.2.2.1, .bool l.2.2.2.2.2.2.1, .int .i64 l.2.2.2.2.2.2.2.1, .bool l.2.2.2.2.2.2.2.2] (0, 0) _ hSw.2 Tryz.underlying30 rfl (by kernel_rfl)⟩) (by assumption) ?_; (try simp only [Act.put, List.setIfInBounds_toArray, List.set_cons_zero, List.set_cons_succ]))
  (refine takeH (i := 19) (v := ?_) rfl (by kernel_rfl) (by kernel_rfl) (by kernel_rfl) (fun _ _ _ h => h) (Or.inl ⟨by rfl, ?_⟩) (by assumption) ?_; rotate_left; (focus ((intro wS hSw); (try dsimp only at hSw); obtain ⟨s0, s1⟩ := hSw; go_simp; (try with_reducible rfl); done)); (try simp only [Act.put, List.setIfInBounds_toArray, List.set_cons_zero, List.set_cons_succ]))
  refine aloneH (i := 17) rfl (by kernel_rfl) (fun K hK => ?_)
  rw [if_pos (by rfl)]
  go_simp; ((refine (HS5.out _ (below_then HWd.out (below_then (below_then (below_then HC1.out HC2.out) HC3.out) HC4.out))).mono ?_); (rintro e w7 ⟨rfl, hb⟩); have HC5 := Lib.hid hb; clear hb; (try go_simp))
  refine hK.out _ _ (⟨heap_on HC5.out hHeld.1, heap_on HC5.out hHeld.2⟩) (fun hNew => ?_)
  clear hK K hHeld; (have hHeld := hNew); clear hNew; (try simp only [Act.put, List.setIfInBounds_toArray, List.set_cons_zero, List.set_cons_succ])
  refine aloneH (i := 20) rfl (by kernel_rfl) (fun K hK => ?_)
  rw [if_pos (by rfl)]
  go_simp; ((refine (HS6.out _ (below_then HWd.out (below_then (below_then (below_then (below_then HC1.out HC2.out) HC3.out) HC4.out) HC5.out))).mono ?_); (rintro e w8 ⟨rfl, hb⟩); have HC6 := Lib.hid hb; clear hb; (try go_simp))
  refine hK.out _ _ (⟨heap_on HC6.out hHeld.1, heap_on HC6.out hHeld.2⟩) (fun hNew => ?_)
  clear hK K hHeld; (have hHeld := hNew); clear hNew; (try simp only [Act.put, List.setIfInBounds_toArray, List.set_cons_zero, List.set_cons_succ])
  (refine takeH (i := 21) (v := ?_) rfl (by kernel_rfl) (by kernel_rfl) (by kernel_rfl) (fun _ _ _ h => h) (Or.inl ⟨by rfl, ?_⟩) (by assumption) ?_; rotate_left; (focus ((intro wS hSw); (try dsimp only at hSw); obtain ⟨s0, s1⟩ := hSw; go_simp; (try with_reducible rfl); done)); (try simp only [Act.put, List.setIfInBounds_toArray, List.set_cons_zero, List.set_cons_succ]))
  (refine takeH (i := 22) (v := ?_) rfl (by kernel_rfl) (by kernel_rfl) (by kernel_rfl) (fun _ _ _ h => h) (Or.inl ⟨by rfl, ?_⟩) (by assumption) ?_; rotate_left; (focus ((intro wS hSw); (try dsimp only at hSw); obtain ⟨s0, s1⟩ := hSw; go_simp; (try with_reducible rfl); done)); (try simp only [Act.put, List.setIfInBounds_toArray, List.set_cons_zero, List.set_cons_succ]))
  (refine takeH (i := 23) (v := ?_) rfl (by kernel_rfl) (by kernel_rfl) (by kernel_rfl) (fun _ _ _ h => h) (Or.inl ⟨by rfl, ?_⟩) (by assumption) ?_; rotate_left; (focus ((intro wS hSw); (try dsimp only at hSw); obtain ⟨s0, s1⟩ := hSw; go_simp; (try with_reducible rfl); done)); (try simp only [Act.put, List.setIfInBounds_toArray, List.set_cons_zero, List.set_cons_succ]))
  refine aloneH (i := 24) rfl (by kernel_rfl) (fun K hK => ?_)
  rw [if_pos (by rfl)]
  go_simp; ((refine (HS7.out _ (below_then HWd.out (below_then (below_then (below_then (below_then (below_then HC1.out HC2.out) HC3.out) HC4.out) HC5.out) HC6.out))).mono ?_); (rintro e w9 ⟨rfl, hb⟩); have HC7 := Lib.hid hb; clear hb; (try go_simp))
  refine hK.out _ _ (⟨heap_on HC7.out hHeld.1, heap_on HC7.out hHeld.2⟩) (fun hNew => ?_)
  clear hK K hHeld; (have hHeld := hNew); clear hNew; (try simp only [Act.put, List.setIfInBounds_toArray, List.set_cons_zero, List.set_cons_succ])
  (refine takeH (i := 25) (v := ?_) rfl (by kernel_rfl) (by kernel_rfl) (by kernel_rfl) (fun _ _ _ h => h) (Or.inl ⟨by rfl, ?_⟩) (by assumption) ?_; rotate_left; (focus ((intro wS hSw); (try dsimp only at hSw); obtain ⟨s0, s1⟩ := hSw; go_simp; (try with_reducible rfl); done)); (try simp only [Act.put, List.setIfInBounds_toArray, List.set_cons_zero, List.set_cons_succ]))
  (refine takeH (i := 26) (v := ?_) rfl (by kernel_rfl) (by kernel_rfl) (by kernel_rfl) (fun _ _ _ h => h) (Or.inl ⟨by rfl, ?_⟩) (by assumption) ?_; rotate_left; (focus ((intro wS hSw); (try dsimp only at hSw); obtain ⟨s0, s1⟩ := hSw; go_simp; (try with_reducible rfl); done)); (try simp only [Act.put, List.setIfInBounds_toArray, List.set_cons_zero, List.set_cons_succ]))
  refine wpAnyH_done (by kernel_rfl) ?_ _
  clear hHeld
  go_wp2
  go_ret
  exact ⟨by simp, below_then HWd.out (below_then (below_then (below_then (below_then (below_then (below_then HC1.out HC2.out) HC3.out) HC4.out) HC5.out) HC6.out) HC7.out)⟩
theorem light_lines {x : CmdV} (h : lightC x = true) : x.lines.length ≤ 140737488351232 := by
  unfold lightC at h
  simp only [Bool.and_eq_true, decide_eq_true_eq] at h
  omega
theorem recordGood_any (x : CmdV) (l : LineV) (sale : Bool) (w : World) (hx : CmdVOk w x) (hl : l.2.2.1.size ≤ 140737488351232 ∧ l.2.2.2.1.size ≤ 140737488351232 ∧ l.2.2.2.2.1.size ≤ 140737488351232) (hM : MaxL w) :
    Calls Tryz.prog 3 #[.agg #[.int .i64 x.kind, .string x.state, .string x.text, .int .i64 x.category, .int .i64 x.bp, .int .i64 x.from_, .int .i64 x.until_, .int .i64 x.num, .int .i64 x.den, .int .i64 x.index, .int .i64 x.pk, .int .i64 x.py, .int .i64 x.pi, .string x.id, .bool x.sale, .bool x.credit, .string x.refers, .int .i64 x.day, .string x.country, .string x.number, .string x.currency, .slice x.linesA x.lines.length x.linesC], .agg #[.int .i64 l.1, .int .i64 l.2.1, .string l.2.2.1, .string l.2.2.2.1, .string l.2.2.2.2.1, .int .i64 l.2.2.2.2.2.1, .bool l.2.2.2.2.2.2.1, .int .i64 l.2.2.2.2.2.2.2.1, .bool l.2.2.2.2.2.2.2.2], .bool sale] w fun e w1 => e = .returned (.bool true) ∧ Below w.heap.size w w1 := by
  have h7 : ∀ W, Below w.heap.size w W → Calls Tryz.prog 7 #[] W fun e w1 => e = .returned (.bool true) ∧ Below W.heap.size W w1 := fun W _ => rec_lives W
  cases hlx : lightC x with
  | false => exact good_long1 #[.int .i64 x.kind, .string x.state, .string x.text, .int .i64 x.category, .int .i64 x.bp, .int .i64 x.from_, .int .i64 x.until_, .int .i64 x.num, .int .i64 x.den, .int .i64 x.index, .int .i64 x.pk, .int .i64 x.py, .int .i64 x.pi, .string x.id, .bool x.sale, .bool x.credit, .string x.refers, .int .i64 x.day, .string x.country, .string x.number, .string x.currency, .slice x.linesA x.lines.length x.linesC] l sale w rfl hl (Lib.hid fun W hb => code_light x W (CmdVOk.on' hx hb) false hlx) (Lib.hid h7)
  | true =>
    have n1 := light_lines hlx
    by_cases hs : (l.2.2.1.size : Int) + (l.2.2.2.1.size : Int) + (l.2.2.2.2.1.size : Int) ≤ 300
    · exact good_walk #[.int .i64 x.kind, .string x.state, .string x.text, .int .i64 x.category, .int .i64 x.bp, .int .i64 x.from_, .int .i64 x.until_, .int .i64 x.num, .int .i64 x.den, .int .i64 x.index, .int .i64 x.pk, .int .i64 x.py, .int .i64 x.pi, .string x.id, .bool x.sale, .bool x.credit, .string x.refers, .int .i64 x.day, .string x.country, .string x.number, .string x.currency, .slice x.linesA x.lines.length x.linesC] l sale (.string x.id) (.bool x.sale) (.bool x.credit) (.string x.refers) (.int .i64 x.day) (.string x.country) (.string x.number) (.string x.currency) (.slice x.linesA x.lines.length x.linesC) (goodC x) (docGood (docOf x) (rightP x.country x.number) (currB x.currency)) (lineGood l sale) w rfl hl hs
        (Lib.hid fun W hb => code_light x W (CmdVOk.on' hx hb) true hlx)
        (Lib.hid fun W hb => code_goodC x W (CmdVOk.on' hx hb) n1 (hM.below hb))
        (Lib.hid fun W hb => ref_goodC x W (CmdVOk.on' hx hb) n1)
        (Lib.hid fun W hb => goodDoc_any (docOf x) W (docOf_ok (CmdVOk.on' hx hb)) n1 (hM.below hb))
        (Lib.hid fun W hb => refDoc_val (docOf x) _ W (docOf_ok (CmdVOk.on' hx hb)) n1 rfl)
        (Lib.hid fun W hb => code_goodLine _ _ _ _ _ _ _ _ _ sale W hl.1 hl.2.1 hl.2.2 _ rfl)
        (Lib.hid fun W hb => ref_goodLine _ _ _ _ _ _ _ _ _ sale W hl.1 hl.2.1 hl.2.2 _ rfl)
        (Lib.hid h7) (Lib.hid ⟨rfl, rfl, rfl, rfl, rfl, rfl, rfl, rfl, rfl⟩)
    · exact good_long2 #[.int .i64 x.kind, .string x.state, .string x.text, .int .i64 x.category, .int .i64 x.bp, .int .i64 x.from_, .int .i64 x.until_, .int .i64 x.num, .int .i64 x.den, .int .i64 x.index, .int .i64 x.pk, .int .i64 x.py, .int .i64 x.pi, .string x.id, .bool x.sale, .bool x.credit, .string x.refers, .int .i64 x.day, .string x.country, .string x.number, .string x.currency, .slice x.linesA x.lines.length x.linesC] l sale w rfl hl hs (Lib.hid fun W hb => code_light x W (CmdVOk.on' hx hb) true hlx) (Lib.hid h7)
end Go.Proofs.YtplghpamckdklaaGreat

namespace Go.Proofs.YtplghpamckdklaaGreat
open Go.ChangeShapes
theorem fits_of {H : Type} {P : Program} {ts : List TypeId} {ds : List (DataW H)} (h : (DataW.weightsEach P ts ds).all (· ≤ reachBytes) = true) {j : Nat} {t : TypeId} {d : DataW H} (ht : ts[j]? = some t) (hd : ds[j]? = some d) : Fits P t d := fun n hn => by
  have := List.all_eq_true.1 h _ (DataW.weights_mem_each ht hd n hn)
  simpa using this
end Go.Proofs.YtplghpamckdklaaGreat

namespace Go.Proofs
open Go.Shelf
def Tryz.laysM144_ren : Go.Shelf.Ren := ⟨fun | 144 => 80 | 143 => 103 | 219 => 122 | 217 => 128 | 225 => 129 | 224 => 130 | 267 => 131 | 266 => 132 | 314 => 133 | n => n, fun | 9 => 9 | 4 => 4 | 3 => 3 | 5 => 5 | 46 => 106 | 146 => 125 | 51 => 124 | n => n, fun | 1 => 0 | n => n⟩
theorem Tryz.laysM144 : Go.Proofs.LaysM.n144 Tryz.prog Tryz.laysM144_ren := {
  mixed := by kernel_rfl
  f143 := Tryz.func103.trans (congrArg some (by kernel_rfl))
  f144 := Tryz.func80.trans (congrArg some (by kernel_rfl))
  f217 := Tryz.func128.trans (congrArg some (by kernel_rfl))
  f219 := Tryz.func122.trans (congrArg some (by kernel_rfl))
  f224 := Tryz.func130.trans (congrArg some (by kernel_rfl))
  f225 := Tryz.func129.trans (congrArg some (by kernel_rfl))
  f266 := Tryz.func132.trans (congrArg some (by kernel_rfl))
  f267 := Tryz.func131.trans (congrArg some (by kernel_rfl))
  f314 := Tryz.func133.trans (congrArg some (by kernel_rfl))
  t3 := Tryz.underlying3
  a3 := Tryz.isAgg3
  z3 := Tryz.sizeOf3
  v3 := Tryz.zeroValue3
  t4 := Tryz.underlying4
  a4 := Tryz.isAgg4
  z4 := Tryz.sizeOf4
  v4 := Tryz.zeroValue4
  t5 := Tryz.underlying5
  a5 := Tryz.isAgg5
  z5 := Tryz.sizeOf5
  v5 := Tryz.zeroValue5
  t9 := Tryz.underlying9
  a9 := Tryz.isAgg9
  z9 := Tryz.sizeOf9
  v9 := Tryz.zeroValue9
  t46 := Tryz.underlying106
  a46 := Tryz.isAgg106
  z46 := Tryz.sizeOf106
  v46 := Tryz.zeroValue106
  t51 := Tryz.underlying124
  a51 := Tryz.isAgg124
  z51 := Tryz.sizeOf124
  v51 := Tryz.zeroValue124
  t146 := Tryz.underlying125
  a146 := Tryz.isAgg125
  z146 := Tryz.sizeOf125
  v146 := Tryz.zeroValue125
  g1 := by kernel_rfl
  i3 := by kernel_rfl
  i4 := by kernel_rfl
  i5 := by kernel_rfl
  i9 := by kernel_rfl
  i46 := by kernel_rfl
  i51 := by kernel_rfl
  i146 := by kernel_rfl
  m1 := by kernel_rfl
  s1_3 := fun w h => Go.Proofs.cell_of_shapedOpen_int (zero := #[.int .i64 0]) (t := 3) h (of_decide_eq_true (by kernel_rfl)) (by kernel_rfl) rfl (by kernel_rfl) (by kernel_rfl) Tryz.underlying3 }
open Go.RowKit Go.Lib in
theorem Tryz.strings_Contains_shaped (s sub : ByteArray) (w : World) (h : w.ShapedOpen Tryz.prog) (hs : s.size < 4294967281) :
    Calls Tryz.prog 80 #[.string s, .string sub] w fun e w' => e = .returned (.bool (Lib.contains s.data.toList sub.data.toList)) ∧ w' = w := Any.strings_Contains_shaped Tryz.laysM144 s sub w h hs
end Go.Proofs
