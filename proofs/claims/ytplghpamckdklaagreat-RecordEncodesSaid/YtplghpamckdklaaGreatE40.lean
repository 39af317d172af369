/- A command, read, by its kind (1). A command, read, by its kind (2, 3, 4). -/
import Derived.Test.YtplghpamckdklaaGreatE39
import Derived.Deep.Cut
import Derived.Deep.DeepCutAuto
import Derived.Laws.CopyOwn
namespace Go.Proofs.YtplghpamckdklaaGreat
open Go.RowKit Go.ChangeShapes
set_option maxRecDepth 100000
set_option linter.unusedSimpArgs false
set_option linter.unusedVariables false

theorem cells_info' : (Tryz.prog.info? 28).map (·.size) = some 22 := by kernel_rfl
theorem RC.on {w0 w w1 : World} {g b : Nat} {s} {cs} (h : RC w0 w g s b cs) (hb : Below w.heap.size w w1) : RC w0 w1 g s b cs := ⟨h.rs.on hb, heap_on hb h.box, h.far⟩
theorem RC.at0 {w0 w : World} {g b : Nat} {s} {k : Int} (h : RC w0 w g s b (kindC k)) : w.cell? ⟨b, 0, none⟩ = some (.int .i64 k) := (cell_of_row _ b 0 _ _ _ h.box).trans rfl
def putAll (cs : Array Value) (l : List (Nat × List Value)) : Array Value := l.foldl (fun a p => putAt a p.1 p.2) cs
set_option maxHeartbeats 1000000 in
theorem code_year (n : Int) (w : World) : Calls Tryz.prog 75 #[.int .i64 n] w fun e w1 => e = .returned (.agg #[.int .i64 3, .int .i64 n, .int .i64 1]) ∧ Below w.heap.size w w1 := by
 have HB := Lib.hid (below_alloc w (.cells #[.int .i64 3, .int .i64 n, .int .i64 1] 23))
 go_enter Tryz.func75, Tryz.ntmps75
 have HX := Lib.hid (heap_alloc_new w (.cells #[.int .i64 3, .int .i64 n, .int .i64 1] 23))
 go_wp2
 exact bodyPost_ret (v := .agg #[.int .i64 3, .int .i64 n, .int .i64 1]) (results_cell_row Tryz.results75 _ _ w.heap.size 23 #[.int .i64 3, .int .i64 n, .int .i64 1] (0, 0) _ rfl HX.out Tryz.underlying23 rfl (by kernel_rfl)) rfl ⟨rfl, HB.out⟩
set_option maxHeartbeats 4000000 in
theorem read_1 (g : Nat) (s : Bool × Text) (w : World) (hr : Rdr w g s.1 s.2) (hk : numV s = 1) : Calls Tryz.prog 45 #[.pointer (some ⟨g, 0, none⟩)] w fun e w1 => ∃ cs, e = .returned (.agg cs) ∧ cs = putAll (kindC 1) [(1, [.string (textV (numS s))]), (9, [.int .i64 (numV (textS (numS s)))]), (5, [.int .i64 (numV (numS (textS (numS s))))])] ∧ RS w w1 g (numS (numS (textS (numS s)))) := by
 have HS0 := Lib.hid (RS.start (hr.on (below_alloc w (.cells zeroCmd 28))))
 have HZ0 := Lib.hid (heap_alloc_new w (.cells zeroCmd 28))
 have hgw : g < w.heap.size := heapLt hr.choose_spec.choose_spec.1
 have HP : Hid (∀ w1 s1, RS (w.alloc (.cells zeroCmd 28)) w1 g s1 → RS w w1 g s1) := Lib.hid (fun w1 s1 h => ⟨h.1, (Only.of_below (below_alloc w (.cells zeroCmd 28))).trans h.2.1, hgw⟩)
 have HG : Hid (g < w.heap.size ∧ w.heap.size < (w.alloc (.cells zeroCmd 28)).heap.size) := Lib.hid ⟨hgw, by simp⟩
 have HK := Lib.hid hk
 have hmf : ∀ (fn : Fn) (first cap : Array Value) (w : World), (Instr.makeFunc fn first cap).run Tryz.prog w = .ok (.func fn first cap) w := fun _ _ _ _ => rfl
 clear hr hgw hk
 go_enter Tryz.func45, Tryz.ntmps45
 go_upto_region 2 with fail
 generalize World.alloc w _ = w0 at HS0 HZ0 HP HG ⊢
 have HZ : Hid (w0.heap[w.heap.size]? = some (.cells zeroCmd 28 (0, 0))) := HZ0
 clear HZ0
 have HN : Hid (Calls Tryz.prog 73 #[.pointer (some ⟨g, 0, none⟩)] w0 fun e w1 => e = .returned (.int .i64 1) ∧ RS w0 w1 g (numS s)) := Lib.hid (HS0.out.num.mono fun e w1 h => ⟨by rw [← HK.out]; exact h.1, h.2.1⟩)
 go_wp2_with (go_at_call 73; refine HN.out.mono ?_; rintro e w1 ⟨rfl, hs⟩; have HR := Lib.hid hs; clear hs; refine Stop.out ?_)
 unfold Stop
 have HA := Lib.hid (heap_alloc_new w1 (.cells zeroCmd 28))
 have HC := Lib.hid ((RC.start (cs := zeroCmd) HR.out).put #[.int .i64 1, .string ⟨#[]⟩, .string ⟨#[]⟩, .int .i64 0, .int .i64 0, .int .i64 0, .int .i64 0, .int .i64 0, .int .i64 0, .int .i64 0, .int .i64 0, .int .i64 0, .int .i64 0, .string ⟨#[]⟩, .bool false, .bool false, .string ⟨#[]⟩, .int .i64 0, .string ⟨#[]⟩, .string ⟨#[]⟩, .string ⟨#[]⟩, .slice none 0 0])
 have HO1 : Hid ((#[.int .i64 1, .string ⟨#[]⟩, .string ⟨#[]⟩, .int .i64 0, .int .i64 0, .int .i64 0, .int .i64 0, .int .i64 0, .int .i64 0, .int .i64 0, .int .i64 0, .int .i64 0, .int .i64 0, .string ⟨#[]⟩, .bool false, .bool false, .string ⟨#[]⟩, .int .i64 0, .string ⟨#[]⟩, .string ⟨#[]⟩, .string ⟨#[]⟩, .slice none 0 0] : Array Value).all (·.oneCell') = true) := Lib.hid (by simp [Value.oneCell'])
 go_wp2_with ((with_reducible refine wpList_store_row (o := ⟨none, _, _, _, _, _⟩) ?b1 28 (.tmp 5) (.tmp 12) ?b2 w1.heap.size #[.int .i64 1, .string ⟨#[]⟩, .string ⟨#[]⟩, .int .i64 0, .int .i64 0, .int .i64 0, .int .i64 0, .int .i64 0, .int .i64 0, .int .i64 0, .int .i64 0, .int .i64 0, .int .i64 0, .string ⟨#[]⟩, .bool false, .bool false, .string ⟨#[]⟩, .int .i64 0, .string ⟨#[]⟩, .string ⟨#[]⟩, .string ⟨#[]⟩, .slice none 0 0] ?b3 ?b4 28 zeroCmd HA.out ?b5 ?b6 ?b7 ?_); (case b1 => rfl); (case b2 => rfl); (case b3 => rfl); (case b4 => rfl); (case b5 => exact cells_info'); (case b6 => rfl); (case b7 => exact HO1.out); refine Stop.out ?_)
 unfold Stop
 generalize World.setRow _ _ _ = w2 at HC ⊢
 generalize w1.heap.size = bb at HC ⊢
 generalize Value.agg #[.int .i64 1, .string ⟨#[]⟩, .string ⟨#[]⟩, .int .i64 0, .int .i64 0, .int .i64 0, .int .i64 0, .int .i64 0, .int .i64 0, .int .i64 0, .int .i64 0, .int .i64 0, .int .i64 0, .string ⟨#[]⟩, .bool false, .bool false, .string ⟨#[]⟩, .int .i64 0, .string ⟨#[]⟩, .string ⟨#[]⟩, .string ⟨#[]⟩, .slice none 0 0] = vk
 clear HA HO1
 have HC1 : Hid (RC w0 w2 g (numS s) bb (kindC 1)) := HC
 clear HC
 have HC := HC1
 clear HC1
 have y0 := HC.out.at0
 have HSZ : Hid ((kindC 1).size = 22) := Lib.hid (kindC_size _)
 generalize hcs : kindC 1 = cs0 at HC HSZ
 have HCS : Hid (kindC 1 = cs0) := Lib.hid hcs
 clear hcs HR HN HS0
 go_wp2_with (go_at_call 74; refine (HC.out.text).mono ?_; rintro e w3 ⟨rfl, hs⟩; have HR1 := Lib.hid hs; clear hs; clear y0; refine Stop.out ?_)
 unfold Stop
 clear HC
 go_wp2_with (go_at_call 73; refine (HR1.out.num).mono ?_; rintro e w4 ⟨rfl, hs⟩; have HR2 := Lib.hid hs; clear hs; refine Stop.out ?_)
 unfold Stop
 clear HR1
 go_wp2_with (go_at_call 73; refine (HR2.out.num).mono ?_; rintro e w5 ⟨rfl, hs⟩; have HR3 := Lib.hid hs; clear hs; refine Stop.out ?_)
 unfold Stop
 clear HR2
 go_wp2_with ((with_reducible refine wpList_store_part (o := ⟨none, _, _, _, _, _⟩) ?a0 9 (.tmp 42) (.tmp 37) ?a1 bb 1 ?a2 (.string (textV (numS s))) [.string (textV (numS s))] 1 ?a3 ?a4 ?a5 ?a6 ?a7 cs0 28 HR3.out.box ?a8 ?_); (case a0 => rfl); (case a1 => rfl); (case a2 => rfl); (case a3 => kernel_rfl); (case a4 => rfl); (case a5 => rfl); (case a6 => intro u hu; rw [List.mem_singleton] at hu; subst hu; rfl); (case a7 => rfl); (case a8 => have := HSZ.out; simp; omega); refine Stop.out ?_)
 unfold Stop
 have HR4 := Lib.hid (HR3.out.put (putAt cs0 1 [.string (textV (numS s))]))
 have HSZn : Hid ((putAt cs0 1 [.string (textV (numS s))]).size = 22) := Lib.hid ((putAt_size (by have := HSZ.out; simp; omega)).trans HSZ.out)
 clear HSZ
 have HSZ := HSZn
 clear HSZn
 generalize World.setRow _ _ _ = w6 at HR4 ⊢
 generalize hcs : putAt cs0 1 [.string (textV (numS s))] = cs4 at HR4 HSZ
 have HCS4 : Hid (putAt cs0 1 [.string (textV (numS s))] = cs4) := Lib.hid hcs
 clear hcs HR3
 go_wp2_with ((with_reducible refine wpList_store_part (o := ⟨none, _, _, _, _, _⟩) ?a0 3 (.tmp 43) (.tmp 39) ?a1 bb 9 ?a2 (.int .i64 (numV (textS (numS s)))) [.int .i64 (numV (textS (numS s)))] 1 ?a3 ?a4 ?a5 ?a6 ?a7 cs4 28 HR4.out.box ?a8 ?_); (case a0 => rfl); (case a1 => rfl); (case a2 => rfl); (case a3 => kernel_rfl); (case a4 => rfl); (case a5 => rfl); (case a6 => intro u hu; rw [List.mem_singleton] at hu; subst hu; rfl); (case a7 => rfl); (case a8 => have := HSZ.out; simp; omega); refine Stop.out ?_)
 unfold Stop
 have HR5 := Lib.hid (HR4.out.put (putAt cs4 9 [.int .i64 (numV (textS (numS s)))]))
 have HSZn : Hid ((putAt cs4 9 [.int .i64 (numV (textS (numS s)))]).size = 22) := Lib.hid ((putAt_size (by have := HSZ.out; simp; omega)).trans HSZ.out)
 clear HSZ
 have HSZ := HSZn
 clear HSZn
 generalize World.setRow _ _ _ = w7 at HR5 ⊢
 generalize hcs : putAt cs4 9 [.int .i64 (numV (textS (numS s)))] = cs5 at HR5 HSZ
 have HCS5 : Hid (putAt cs4 9 [.int .i64 (numV (textS (numS s)))] = cs5) := Lib.hid hcs
 clear hcs HR4
 go_wp2_with ((with_reducible refine wpList_store_part (o := ⟨none, _, _, _, _, _⟩) ?a0 3 (.tmp 44) (.tmp 41) ?a1 bb 5 ?a2 (.int .i64 (numV (numS (textS (numS s))))) [.int .i64 (numV (numS (textS (numS s))))] 1 ?a3 ?a4 ?a5 ?a6 ?a7 cs5 28 HR5.out.box ?a8 ?_); (case a0 => rfl); (case a1 => rfl); (case a2 => rfl); (case a3 => kernel_rfl); (case a4 => rfl); (case a5 => rfl); (case a6 => intro u hu; rw [List.mem_singleton] at hu; subst hu; rfl); (case a7 => rfl); (case a8 => have := HSZ.out; simp; omega); refine Stop.out ?_)
 unfold Stop
 have HR6 := Lib.hid (HR5.out.put (putAt cs5 5 [.int .i64 (numV (numS (textS (numS s))))]))
 have HSZn : Hid ((putAt cs5 5 [.int .i64 (numV (numS (textS (numS s))))]).size = 22) := Lib.hid ((putAt_size (by have := HSZ.out; simp; omega)).trans HSZ.out)
 clear HSZ
 have HSZ := HSZn
 clear HSZn
 generalize World.setRow _ _ _ = w8 at HR6 ⊢
 generalize hcs : putAt cs5 5 [.int .i64 (numV (numS (textS (numS s))))] = cs6 at HR6 HSZ
 have HCS6 : Hid (putAt cs5 5 [.int .i64 (numV (numS (textS (numS s))))] = cs6) := Lib.hid hcs
 clear hcs HR5
 have HONE : Hid (cs6.all (·.oneCell') = true) := Lib.hid (by rw [← HCS6.out, ← HCS5.out, ← HCS4.out, ← HCS.out]; simp [putAt, kindC, Value.oneCell'])
 have HI := Lib.hid (cmd_info HSZ.out)
 have HX := Lib.hid HR6.out.box
 have HZ9 := Lib.hid ((HR6.out.below w.heap.size HG.out.2 (Nat.ne_of_gt HG.out.1)).trans HZ.out)
 go_wp2_with ((with_reducible refine wpList_load_row (o := ⟨some 112, _, _, _, _, _⟩) ?a1 28 (.tmp 5) ?a2 bb ?a3 28 cs6 (0, 0) _ HX.out Tryz.underlying28 ?a4 HI.out ?_); (case a1 => rfl); (case a2 => rfl); (case a3 => rfl); (case a4 => rfl); refine Stop.out ?_)
 unfold Stop
 go_wp2_with ((with_reducible refine wpList_store_row (o := ⟨none, _, _, _, _, _⟩) ?b1 28 (.tmp 2) (.tmp 112) ?b2 w.heap.size cs6 ?b3 ?b4 28 zeroCmd HZ9.out HI.out ?b5 ?b6 ?_); (case b1 => rfl); (case b2 => rfl); (case b3 => rfl); (case b4 => rfl); (case b5 => exact HSZ.out.symm); (case b6 => exact HONE.out); refine Stop.out ?_)
 unfold Stop
 have HP9 := Lib.hid (setRow_heap _ w.heap.size _ cs6 _ _ HZ9.out)
 go_wp2
 exact bodyPost_ret (v := .agg cs6) (results_cell_row Tryz.results45 _ _ w.heap.size 28 cs6 (0, 0) _ rfl HP9.out Tryz.underlying28 rfl HI.out) rfl ⟨cs6, rfl, by unfold putAll; rw [← HCS6.out, ← HCS5.out, ← HCS4.out, ← HCS.out]; rfl, (HP.out _ _ HR6.out.rs).far (only_setRow _ _ _) (Nat.le_refl _)⟩
end Go.Proofs.YtplghpamckdklaaGreat

namespace Go.Proofs.YtplghpamckdklaaGreat
open Go.RowKit Go.ChangeShapes
set_option maxRecDepth 100000
set_option linter.unusedSimpArgs false
set_option linter.unusedVariables false

set_option maxHeartbeats 4000000 in
theorem read_2 (g : Nat) (s : Bool × Text) (w : World) (hr : Rdr w g s.1 s.2) (hk : numV s = 2) : Calls Tryz.prog 45 #[.pointer (some ⟨g, 0, none⟩)] w fun e w1 => ∃ cs, e = .returned (.agg cs) ∧ cs = putAll (kindC 2) [(1, [.string (textV (numS s))]), (3, [.int .i64 (numV (textS (numS s)))]), (5, [.int .i64 (numV (numS (textS (numS s))))]), (6, [.int .i64 (numV (numS (numS (textS (numS s)))))]), (4, [.int .i64 (numV (numS (numS (numS (textS (numS s))))))])] ∧ RS w w1 g (numS (numS (numS (numS (textS (numS s)))))) := by
 have HS0 := Lib.hid (RS.start (hr.on (below_alloc w (.cells zeroCmd 28))))
 have HZ0 := Lib.hid (heap_alloc_new w (.cells zeroCmd 28))
 have hgw : g < w.heap.size := heapLt hr.choose_spec.choose_spec.1
 have HP : Hid (∀ w1 s1, RS (w.alloc (.cells zeroCmd 28)) w1 g s1 → RS w w1 g s1) := Lib.hid (fun w1 s1 h => ⟨h.1, (Only.of_below (below_alloc w (.cells zeroCmd 28))).trans h.2.1, hgw⟩)
 have HG : Hid (g < w.heap.size ∧ w.heap.size < (w.alloc (.cells zeroCmd 28)).heap.size) := Lib.hid ⟨hgw, by simp⟩
 have HK := Lib.hid hk
 have hmf : ∀ (fn : Fn) (first cap : Array Value) (w : World), (Instr.makeFunc fn first cap).run Tryz.prog w = .ok (.func fn first cap) w := fun _ _ _ _ => rfl
 clear hr hgw hk
 go_enter Tryz.func45, Tryz.ntmps45
 go_upto_region 2 with fail
 generalize World.alloc w _ = w0 at HS0 HZ0 HP HG ⊢
 have HZ : Hid (w0.heap[w.heap.size]? = some (.cells zeroCmd 28 (0, 0))) := HZ0
 clear HZ0
 have HN : Hid (Calls Tryz.prog 73 #[.pointer (some ⟨g, 0, none⟩)] w0 fun e w1 => e = .returned (.int .i64 2) ∧ RS w0 w1 g (numS s)) := Lib.hid (HS0.out.num.mono fun e w1 h => ⟨by rw [← HK.out]; exact h.1, h.2.1⟩)
 go_wp2_with (go_at_call 73; refine HN.out.mono ?_; rintro e w1 ⟨rfl, hs⟩; have HR := Lib.hid hs; clear hs; refine Stop.out ?_)
 unfold Stop
 have HA := Lib.hid (heap_alloc_new w1 (.cells zeroCmd 28))
 have HC := Lib.hid ((RC.start (cs := zeroCmd) HR.out).put #[.int .i64 2, .string ⟨#[]⟩, .string ⟨#[]⟩, .int .i64 0, .int .i64 0, .int .i64 0, .int .i64 0, .int .i64 0, .int .i64 0, .int .i64 0, .int .i64 0, .int .i64 0, .int .i64 0, .string ⟨#[]⟩, .bool false, .bool false, .string ⟨#[]⟩, .int .i64 0, .string ⟨#[]⟩, .string ⟨#[]⟩, .string ⟨#[]⟩, .slice none 0 0])
 have HO1 : Hid ((#[.int .i64 2, .string ⟨#[]⟩, .string ⟨#[]⟩, .int .i64 0, .int .i64 0, .int .i64 0, .int .i64 0, .int .i64 0, .int .i64 0, .int .i64 0, .int .i64 0, .int .i64 0, .int .i64 0, .string ⟨#[]⟩, .bool false, .bool false, .string ⟨#[]⟩, .int .i64 0, .string ⟨#[]⟩, .string ⟨#[]⟩, .string ⟨#[]⟩, .slice none 0 0] : Array Value).all (·.oneCell') = true) := Lib.hid (by simp [Value.oneCell'])
 go_wp2_with ((with_reducible refine wpList_store_row (o := ⟨none, _, _, _, _, _⟩) ?b1 28 (.tmp 5) (.tmp 12) ?b2 w1.heap.size #[.int .i64 2, .string ⟨#[]⟩, .string ⟨#[]⟩, .int .i64 0, .int .i64 0, .int .i64 0, .int .i64 0, .int .i64 0, .int .i64 0, .int .i64 0, .int .i64 0, .int .i64 0, .int .i64 0, .string ⟨#[]⟩, .bool false, .bool false, .string ⟨#[]⟩, .int .i64 0, .string ⟨#[]⟩, .string ⟨#[]⟩, .string ⟨#[]⟩, .slice none 0 0] ?b3 ?b4 28 zeroCmd HA.out ?b5 ?b6 ?b7 ?_); (case b1 => rfl); (case b2 => rfl); (case b3 => rfl); (case b4 => rfl); (case b5 => exact cells_info'); (case b6 => rfl); (case b7 => exact HO1.out); refine Stop.out ?_)
 unfold Stop
 generalize World.setRow _ _ _ = w2 at HC ⊢
 generalize w1.heap.size = bb at HC ⊢
 generalize Value.agg #[.int .i64 2, .string ⟨#[]⟩, .string ⟨#[]⟩, .int .i64 0, .int .i64 0, .int .i64 0, .int .i64 0, .int .i64 0, .int .i64 0, .int .i64 0, .int .i64 0, .int .i64 0, .int .i64 0, .string ⟨#[]⟩, .bool false, .bool false, .string ⟨#[]⟩, .int .i64 0, .string ⟨#[]⟩, .string ⟨#[]⟩, .string ⟨#[]⟩, .slice none 0 0] = vk
 clear HA HO1
 have HC1 : Hid (RC w0 w2 g (numS s) bb (kindC 2)) := HC
 clear HC
 have HC := HC1
 clear HC1
 have y0 := HC.out.at0
 have HSZ : Hid ((kindC 2).size = 22) := Lib.hid (kindC_size _)
 generalize hcs : kindC 2 = cs0 at HC HSZ
 have HCS : Hid (kindC 2 = cs0) := Lib.hid hcs
 clear hcs HR HN HS0
 go_wp2_with (go_at_call 74; refine (HC.out.text).mono ?_; rintro e w3 ⟨rfl, hs⟩; have HR1 := Lib.hid hs; clear hs; clear y0; refine Stop.out ?_)
 unfold Stop
 clear HC
 go_wp2_with (go_at_call 73; refine (HR1.out.num).mono ?_; rintro e w4 ⟨rfl, hs⟩; have HR2 := Lib.hid hs; clear hs; refine Stop.out ?_)
 unfold Stop
 clear HR1
 go_wp2_with (go_at_call 73; refine (HR2.out.num).mono ?_; rintro e w5 ⟨rfl, hs⟩; have HR3 := Lib.hid hs; clear hs; refine Stop.out ?_)
 unfold Stop
 clear HR2
 go_wp2_with (go_at_call 73; refine (HR3.out.num).mono ?_; rintro e w6 ⟨rfl, hs⟩; have HR4 := Lib.hid hs; clear hs; refine Stop.out ?_)
 unfold Stop
 clear HR3
 go_wp2_with (go_at_call 73; refine (HR4.out.num).mono ?_; rintro e w7 ⟨rfl, hs⟩; have HR5 := Lib.hid hs; clear hs; refine Stop.out ?_)
 unfold Stop
 clear HR4
 go_wp2_with ((with_reducible refine wpList_store_part (o := ⟨none, _, _, _, _, _⟩) ?a0 9 (.tmp 55) (.tmp 46) ?a1 bb 1 ?a2 (.string (textV (numS s))) [.string (textV (numS s))] 1 ?a3 ?a4 ?a5 ?a6 ?a7 cs0 28 HR5.out.box ?a8 ?_); (case a0 => rfl); (case a1 => rfl); (case a2 => rfl); (case a3 => kernel_rfl); (case a4 => rfl); (case a5 => rfl); (case a6 => intro u hu; rw [List.mem_singleton] at hu; subst hu; rfl); (case a7 => rfl); (case a8 => have := HSZ.out; simp; omega); refine Stop.out ?_)
 unfold Stop
 have HR6 := Lib.hid (HR5.out.put (putAt cs0 1 [.string (textV (numS s))]))
 have HSZn : Hid ((putAt cs0 1 [.string (textV (numS s))]).size = 22) := Lib.hid ((putAt_size (by have := HSZ.out; simp; omega)).trans HSZ.out)
 clear HSZ
 have HSZ := HSZn
 clear HSZn
 generalize World.setRow _ _ _ = w8 at HR6 ⊢
 generalize hcs : putAt cs0 1 [.string (textV (numS s))] = cs6 at HR6 HSZ
 have HCS6 : Hid (putAt cs0 1 [.string (textV (numS s))] = cs6) := Lib.hid hcs
 clear hcs HR5
 go_wp2_with ((with_reducible refine wpList_store_part (o := ⟨none, _, _, _, _, _⟩) ?a0 3 (.tmp 56) (.tmp 48) ?a1 bb 3 ?a2 (.int .i64 (numV (textS (numS s)))) [.int .i64 (numV (textS (numS s)))] 1 ?a3 ?a4 ?a5 ?a6 ?a7 cs6 28 HR6.out.box ?a8 ?_); (case a0 => rfl); (case a1 => rfl); (case a2 => rfl); (case a3 => kernel_rfl); (case a4 => rfl); (case a5 => rfl); (case a6 => intro u hu; rw [List.mem_singleton] at hu; subst hu; rfl); (case a7 => rfl); (case a8 => have := HSZ.out; simp; omega); refine Stop.out ?_)
 unfold Stop
 have HR7 := Lib.hid (HR6.out.put (putAt cs6 3 [.int .i64 (numV (textS (numS s)))]))
 have HSZn : Hid ((putAt cs6 3 [.int .i64 (numV (textS (numS s)))]).size = 22) := Lib.hid ((putAt_size (by have := HSZ.out; simp; omega)).trans HSZ.out)
 clear HSZ
 have HSZ := HSZn
 clear HSZn
 generalize World.setRow _ _ _ = w9 at HR7 ⊢
 generalize hcs : putAt cs6 3 [.int .i64 (numV (textS (numS s)))] = cs7 at HR7 HSZ
 have HCS7 : Hid (putAt cs6 3 [.int .i64 (numV (textS (numS s)))] = cs7) := Lib.hid hcs
 clear hcs HR6
 go_wp2_with ((with_reducible refine wpList_store_part (o := ⟨none, _, _, _, _, _⟩) ?a0 3 (.tmp 57) (.tmp 50) ?a1 bb 5 ?a2 (.int .i64 (numV (numS (textS (numS s))))) [.int .i64 (numV (numS (textS (numS s))))] 1 ?a3 ?a4 ?a5 ?a6 ?a7 cs7 28 HR7.out.box ?a8 ?_); (case a0 => rfl); (case a1 => rfl); (case a2 => rfl); (case a3 => kernel_rfl); (case a4 => rfl); (case a5 => rfl); (case a6 => intro u hu; rw [List.mem_singleton] at hu; subst hu; rfl); (case a7 => rfl); (case a8 => have := HSZ.out; simp; omega); refine Stop.out ?_)
 unfold Stop
 have HR8 := Lib.hid (HR7.out.put (putAt cs7 5 [.int .i64 (numV (numS (textS (numS s))))]))
 have HSZn : Hid ((putAt cs7 5 [.int .i64 (numV (numS (textS (numS s))))]).size = 22) := Lib.hid ((putAt_size (by have := HSZ.out; simp; omega)).trans HSZ.out)
 clear HSZ
 have HSZ := HSZn
 clear HSZn
 generalize World.setRow _ _ _ = w10 at HR8 ⊢
 generalize hcs : putAt cs7 5 [.int .i64 (numV (numS (textS (numS s))))] = cs8 at HR8 HSZ
 have HCS8 : Hid (putAt cs7 5 [.int .i64 (numV (numS (textS (numS s))))] = cs8) := Lib.hid hcs
 clear hcs HR7
 go_wp2_with ((with_reducible refine wpList_store_part (o := ⟨none, _, _, _, _, _⟩) ?a0 3 (.tmp 58) (.tmp 52) ?a1 bb 6 ?a2 (.int .i64 (numV (numS (numS (textS (numS s)))))) [.int .i64 (numV (numS (numS (textS (numS s)))))] 1 ?a3 ?a4 ?a5 ?a6 ?a7 cs8 28 HR8.out.box ?a8 ?_); (case a0 => rfl); (case a1 => rfl); (case a2 => rfl); (case a3 => kernel_rfl); (case a4 => rfl); (case a5 => rfl); (case a6 => intro u hu; rw [List.mem_singleton] at hu; subst hu; rfl); (case a7 => rfl); (case a8 => have := HSZ.out; simp; omega); refine Stop.out ?_)
 unfold Stop
 have HR9 := Lib.hid (HR8.out.put (putAt cs8 6 [.int .i64 (numV (numS (numS (textS (numS s)))))]))
 have HSZn : Hid ((putAt cs8 6 [.int .i64 (numV (numS (numS (textS (numS s)))))]).size = 22) := Lib.hid ((putAt_size (by have := HSZ.out; simp; omega)).trans HSZ.out)
 clear HSZ
 have HSZ := HSZn
 clear HSZn
 generalize World.setRow _ _ _ = w11 at HR9 ⊢
 generalize hcs : putAt cs8 6 [.int .i64 (numV (numS (numS (textS (numS s)))))] = cs9 at HR9 HSZ
 have HCS9 : Hid (putAt cs8 6 [.int .i64 (numV (numS (numS (textS (numS s)))))] = cs9) := Lib.hid hcs
 clear hcs HR8
 go_wp2_with ((with_reducible refine wpList_store_part (o := ⟨none, _, _, _, _, _⟩) ?a0 3 (.tmp 59) (.tmp 54) ?a1 bb 4 ?a2 (.int .i64 (numV (numS (numS (numS (textS (numS s))))))) [.int .i64 (numV (numS (numS (numS (textS (numS s))))))] 1 ?a3 ?a4 ?a5 ?a6 ?a7 cs9 28 HR9.out.box ?a8 ?_); (case a0 => rfl); (case a1 => rfl); (case a2 => rfl); (case a3 => kernel_rfl); (case a4 => rfl); (case a5 => rfl); (case a6 => intro u hu; rw [List.mem_singleton] at hu; subst hu; rfl); (case a7 => rfl); (case a8 => have := HSZ.out; simp; omega); refine Stop.out ?_)
 unfold Stop
 have HR10 := Lib.hid (HR9.out.put (putAt cs9 4 [.int .i64 (numV (numS (numS (numS (textS (numS s))))))]))
 have HSZn : Hid ((putAt cs9 4 [.int .i64 (numV (numS (numS (numS (textS (numS s))))))]).size = 22) := Lib.hid ((putAt_size (by have := HSZ.out; simp; omega)).trans HSZ.out)
 clear HSZ
 have HSZ := HSZn
 clear HSZn
 generalize World.setRow _ _ _ = w12 at HR10 ⊢
 generalize hcs : putAt cs9 4 [.int .i64 (numV (numS (numS (numS (textS (numS s))))))] = cs10 at HR10 HSZ
 have HCS10 : Hid (putAt cs9 4 [.int .i64 (numV (numS (numS (numS (textS (numS s))))))] = cs10) := Lib.hid hcs
 clear hcs HR9
 have HONE : Hid (cs10.all (·.oneCell') = true) := Lib.hid (by rw [← HCS10.out, ← HCS9.out, ← HCS8.out, ← HCS7.out, ← HCS6.out, ← HCS.out]; simp [putAt, kindC, Value.oneCell'])
 have HI := Lib.hid (cmd_info HSZ.out)
 have HX := Lib.hid HR10.out.box
 have HZ9 := Lib.hid ((HR10.out.below w.heap.size HG.out.2 (Nat.ne_of_gt HG.out.1)).trans HZ.out)
 go_wp2_with ((with_reducible refine wpList_load_row (o := ⟨some 112, _, _, _, _, _⟩) ?a1 28 (.tmp 5) ?a2 bb ?a3 28 cs10 (0, 0) _ HX.out Tryz.underlying28 ?a4 HI.out ?_); (case a1 => rfl); (case a2 => rfl); (case a3 => rfl); (case a4 => rfl); refine Stop.out ?_)
 unfold Stop
 go_wp2_with ((with_reducible refine wpList_store_row (o := ⟨none, _, _, _, _, _⟩) ?b1 28 (.tmp 2) (.tmp 112) ?b2 w.heap.size cs10 ?b3 ?b4 28 zeroCmd HZ9.out HI.out ?b5 ?b6 ?_); (case b1 => rfl); (case b2 => rfl); (case b3 => rfl); (case b4 => rfl); (case b5 => exact HSZ.out.symm); (case b6 => exact HONE.out); refine Stop.out ?_)
 unfold Stop
 have HP9 := Lib.hid (setRow_heap _ w.heap.size _ cs10 _ _ HZ9.out)
 go_wp2
 exact bodyPost_ret (v := .agg cs10) (results_cell_row Tryz.results45 _ _ w.heap.size 28 cs10 (0, 0) _ rfl HP9.out Tryz.underlying28 rfl HI.out) rfl ⟨cs10, rfl, by unfold putAll; rw [← HCS10.out, ← HCS9.out, ← HCS8.out, ← HCS7.out, ← HCS6.out, ← HCS.out]; rfl, (HP.out _ _ HR10.out.rs).far (only_setRow _ _ _) (Nat.le_refl _)⟩
set_option maxHeartbeats 4000000 in
theorem read_3 (g : Nat) (s : Bool × Text) (w : World) (hr : Rdr w g s.1 s.2) (hk : numV s = 3) : Calls Tryz.prog 45 #[.pointer (some ⟨g, 0, none⟩)] w fun e w1 => ∃ cs, e = .returned (.agg cs) ∧ cs = putAll (kindC 3) [(5, [.int .i64 (numV (numS s))]), (6, [.int .i64 (numV (numS (numS s)))])] ∧ RS w w1 g (numS (numS (numS s))) := by
 have HS0 := Lib.hid (RS.start (hr.on (below_alloc w (.cells zeroCmd 28))))
 have HZ0 := Lib.hid (heap_alloc_new w (.cells zeroCmd 28))
 have hgw : g < w.heap.size := heapLt hr.choose_spec.choose_spec.1
 have HP : Hid (∀ w1 s1, RS (w.alloc (.cells zeroCmd 28)) w1 g s1 → RS w w1 g s1) := Lib.hid (fun w1 s1 h => ⟨h.1, (Only.of_below (below_alloc w (.cells zeroCmd 28))).trans h.2.1, hgw⟩)
 have HG : Hid (g < w.heap.size ∧ w.heap.size < (w.alloc (.cells zeroCmd 28)).heap.size) := Lib.hid ⟨hgw, by simp⟩
 have HK := Lib.hid hk
 have hmf : ∀ (fn : Fn) (first cap : Array Value) (w : World), (Instr.makeFunc fn first cap).run Tryz.prog w = .ok (.func fn first cap) w := fun _ _ _ _ => rfl
 clear hr hgw hk
 go_enter Tryz.func45, Tryz.ntmps45
 go_upto_region 2 with fail
 generalize World.alloc w _ = w0 at HS0 HZ0 HP HG ⊢
 have HZ : Hid (w0.heap[w.heap.size]? = some (.cells zeroCmd 28 (0, 0))) := HZ0
 clear HZ0
 have HN : Hid (Calls Tryz.prog 73 #[.pointer (some ⟨g, 0, none⟩)] w0 fun e w1 => e = .returned (.int .i64 3) ∧ RS w0 w1 g (numS s)) := Lib.hid (HS0.out.num.mono fun e w1 h => ⟨by rw [← HK.out]; exact h.1, h.2.1⟩)
 go_wp2_with (go_at_call 73; refine HN.out.mono ?_; rintro e w1 ⟨rfl, hs⟩; have HR := Lib.hid hs; clear hs; refine Stop.out ?_)
 unfold Stop
 have HA := Lib.hid (heap_alloc_new w1 (.cells zeroCmd 28))
 have HC := Lib.hid ((RC.start (cs := zeroCmd) HR.out).put #[.int .i64 3, .string ⟨#[]⟩, .string ⟨#[]⟩, .int .i64 0, .int .i64 0, .int .i64 0, .int .i64 0, .int .i64 0, .int .i64 0, .int .i64 0, .int .i64 0, .int .i64 0, .int .i64 0, .string ⟨#[]⟩, .bool false, .bool false, .string ⟨#[]⟩, .int .i64 0, .string ⟨#[]⟩, .string ⟨#[]⟩, .string ⟨#[]⟩, .slice none 0 0])
 have HO1 : Hid ((#[.int .i64 3, .string ⟨#[]⟩, .string ⟨#[]⟩, .int .i64 0, .int .i64 0, .int .i64 0, .int .i64 0, .int .i64 0, .int .i64 0, .int .i64 0, .int .i64 0, .int .i64 0, .int .i64 0, .string ⟨#[]⟩, .bool false, .bool false, .string ⟨#[]⟩, .int .i64 0, .string ⟨#[]⟩, .string ⟨#[]⟩, .string ⟨#[]⟩, .slice none 0 0] : Array Value).all (·.oneCell') = true) := Lib.hid (by simp [Value.oneCell'])
 go_wp2_with ((with_reducible refine wpList_store_row (o := ⟨none, _, _, _, _, _⟩) ?b1 28 (.tmp 5) (.tmp 12) ?b2 w1.heap.size #[.int .i64 3, .string ⟨#[]⟩, .string ⟨#[]⟩, .int .i64 0, .int .i64 0, .int .i64 0, .int .i64 0, .int .i64 0, .int .i64 0, .int .i64 0, .int .i64 0, .int .i64 0, .int .i64 0, .string ⟨#[]⟩, .bool false, .bool false, .string ⟨#[]⟩, .int .i64 0, .string ⟨#[]⟩, .string ⟨#[]⟩, .string ⟨#[]⟩, .slice none 0 0] ?b3 ?b4 28 zeroCmd HA.out ?b5 ?b6 ?b7 ?_); (case b1 => rfl); (case b2 => rfl); (case b3 => rfl); (case b4 => rfl); (case b5 => exact cells_info'); (case b6 => rfl); (case b7 => exact HO1.out); refine Stop.out ?_)
 unfold Stop
 generalize World.setRow _ _ _ = w2 at HC ⊢
 generalize w1.heap.size = bb at HC ⊢
 generalize Value.agg #[.int .i64 3, .string ⟨#[]⟩, .string ⟨#[]⟩, .int .i64 0, .int .i64 0, .int .i64 0, .int .i64 0, .int .i64 0, .int .i64 0, .int .i64 0, .int .i64 0, .int .i64 0, .int .i64 0, .string ⟨#[]⟩, .bool false, .bool false, .string ⟨#[]⟩, .int .i64 0, .string ⟨#[]⟩, .string ⟨#[]⟩, .string ⟨#[]⟩, .slice none 0 0] = vk
 clear HA HO1
 have HC1 : Hid (RC w0 w2 g (numS s) bb (kindC 3)) := HC
 clear HC
 have HC := HC1
 clear HC1
 have y0 := HC.out.at0
 have HSZ : Hid ((kindC 3).size = 22) := Lib.hid (kindC_size _)
 generalize hcs : kindC 3 = cs0 at HC HSZ
 have HCS : Hid (kindC 3 = cs0) := Lib.hid hcs
 clear hcs HR HN HS0
 go_wp2_with (go_at_call 73; refine (HC.out.num).mono ?_; rintro e w3 ⟨rfl, hs⟩; have HR1 := Lib.hid hs; clear hs; clear y0; refine Stop.out ?_)
 unfold Stop
 clear HC
 go_wp2_with (go_at_call 73; refine (HR1.out.num).mono ?_; rintro e w4 ⟨rfl, hs⟩; have HR2 := Lib.hid hs; clear hs; refine Stop.out ?_)
 unfold Stop
 clear HR1
 go_wp2_with ((with_reducible refine wpList_store_part (o := ⟨none, _, _, _, _, _⟩) ?a0 3 (.tmp 70) (.tmp 67) ?a1 bb 5 ?a2 (.int .i64 (numV (numS s))) [.int .i64 (numV (numS s))] 1 ?a3 ?a4 ?a5 ?a6 ?a7 cs0 28 HR2.out.box ?a8 ?_); (case a0 => rfl); (case a1 => rfl); (case a2 => rfl); (case a3 => kernel_rfl); (case a4 => rfl); (case a5 => rfl); (case a6 => intro u hu; rw [List.mem_singleton] at hu; subst hu; rfl); (case a7 => rfl); (case a8 => have := HSZ.out; simp; omega); refine Stop.out ?_)
 unfold Stop
 have HR3 := Lib.hid (HR2.out.put (putAt cs0 5 [.int .i64 (numV (numS s))]))
 have HSZn : Hid ((putAt cs0 5 [.int .i64 (numV (numS s))]).size = 22) := Lib.hid ((putAt_size (by have := HSZ.out; simp; omega)).trans HSZ.out)
 clear HSZ
 have HSZ := HSZn
 clear HSZn
 generalize World.setRow _ _ _ = w5 at HR3 ⊢
 generalize hcs : putAt cs0 5 [.int .i64 (numV (numS s))] = cs3 at HR3 HSZ
 have HCS3 : Hid (putAt cs0 5 [.int .i64 (numV (numS s))] = cs3) := Lib.hid hcs
 clear hcs HR2
 go_wp2_with ((with_reducible refine wpList_store_part (o := ⟨none, _, _, _, _, _⟩) ?a0 3 (.tmp 71) (.tmp 69) ?a1 bb 6 ?a2 (.int .i64 (numV (numS (numS s)))) [.int .i64 (numV (numS (numS s)))] 1 ?a3 ?a4 ?a5 ?a6 ?a7 cs3 28 HR3.out.box ?a8 ?_); (case a0 => rfl); (case a1 => rfl); (case a2 => rfl); (case a3 => kernel_rfl); (case a4 => rfl); (case a5 => rfl); (case a6 => intro u hu; rw [List.mem_singleton] at hu; subst hu; rfl); (case a7 => rfl); (case a8 => have := HSZ.out; simp; omega); refine Stop.out ?_)
 unfold Stop
 have HR4 := Lib.hid (HR3.out.put (putAt cs3 6 [.int .i64 (numV (numS (numS s)))]))
 have HSZn : Hid ((putAt cs3 6 [.int .i64 (numV (numS (numS s)))]).size = 22) := Lib.hid ((putAt_size (by have := HSZ.out; simp; omega)).trans HSZ.out)
 clear HSZ
 have HSZ := HSZn
 clear HSZn
 generalize World.setRow _ _ _ = w6 at HR4 ⊢
 generalize hcs : putAt cs3 6 [.int .i64 (numV (numS (numS s)))] = cs4 at HR4 HSZ
 have HCS4 : Hid (putAt cs3 6 [.int .i64 (numV (numS (numS s)))] = cs4) := Lib.hid hcs
 clear hcs HR3
 have HONE : Hid (cs4.all (·.oneCell') = true) := Lib.hid (by rw [← HCS4.out, ← HCS3.out, ← HCS.out]; simp [putAt, kindC, Value.oneCell'])
 have HI := Lib.hid (cmd_info HSZ.out)
 have HX := Lib.hid HR4.out.box
 have HZ9 := Lib.hid ((HR4.out.below w.heap.size HG.out.2 (Nat.ne_of_gt HG.out.1)).trans HZ.out)
 go_wp2_with ((with_reducible refine wpList_load_row (o := ⟨some 112, _, _, _, _, _⟩) ?a1 28 (.tmp 5) ?a2 bb ?a3 28 cs4 (0, 0) _ HX.out Tryz.underlying28 ?a4 HI.out ?_); (case a1 => rfl); (case a2 => rfl); (case a3 => rfl); (case a4 => rfl); refine Stop.out ?_)
 unfold Stop
 go_wp2_with ((with_reducible refine wpList_store_row (o := ⟨none, _, _, _, _, _⟩) ?b1 28 (.tmp 2) (.tmp 112) ?b2 w.heap.size cs4 ?b3 ?b4 28 zeroCmd HZ9.out HI.out ?b5 ?b6 ?_); (case b1 => rfl); (case b2 => rfl); (case b3 => rfl); (case b4 => rfl); (case b5 => exact HSZ.out.symm); (case b6 => exact HONE.out); refine Stop.out ?_)
 unfold Stop
 have HP9 := Lib.hid (setRow_heap _ w.heap.size _ cs4 _ _ HZ9.out)
 go_wp2
 exact bodyPost_ret (v := .agg cs4) (results_cell_row Tryz.results45 _ _ w.heap.size 28 cs4 (0, 0) _ rfl HP9.out Tryz.underlying28 rfl HI.out) rfl ⟨cs4, rfl, by unfold putAll; rw [← HCS4.out, ← HCS3.out, ← HCS.out]; rfl, (HP.out _ _ HR4.out.rs).far (only_setRow _ _ _) (Nat.le_refl _)⟩
set_option maxHeartbeats 4000000 in
theorem read_4 (g : Nat) (s : Bool × Text) (w : World) (hr : Rdr w g s.1 s.2) (hk : numV s = 4) : Calls Tryz.prog 45 #[.pointer (some ⟨g, 0, none⟩)] w fun e w1 => ∃ cs, e = .returned (.agg cs) ∧ cs = putAll (kindC 4) [(1, [.string (textV (numS s))]), (2, [.string (textV (textS (numS s)))]), (5, [.int .i64 (numV (textS (textS (numS s))))]), (6, [.int .i64 (numV (numS (textS (textS (numS s)))))])] ∧ RS w w1 g (numS (numS (textS (textS (numS s))))) := by
 have HS0 := Lib.hid (RS.start (hr.on (below_alloc w (.cells zeroCmd 28))))
 have HZ0 := Lib.hid (heap_alloc_new w (.cells zeroCmd 28))
 have hgw : g < w.heap.size := heapLt hr.choose_spec.choose_spec.1
 have HP : Hid (∀ w1 s1, RS (w.alloc (.cells zeroCmd 28)) w1 g s1 → RS w w1 g s1) := Lib.hid (fun w1 s1 h => ⟨h.1, (Only.of_below (below_alloc w (.cells zeroCmd 28))).trans h.2.1, hgw⟩)
 have HG : Hid (g < w.heap.size ∧ w.heap.size < (w.alloc (.cells zeroCmd 28)).heap.size) := Lib.hid ⟨hgw, by simp⟩
 have HK := Lib.hid hk
 have hmf : ∀ (fn : Fn) (first cap : Array Value) (w : World), (Instr.makeFunc fn first cap).run Tryz.prog w = .ok (.func fn first cap) w := fun _ _ _ _ => rfl
 clear hr hgw hk
 go_enter Tryz.func45, Tryz.ntmps45
 go_upto_region 2 with fail
 generalize World.alloc w _ = w0 at HS0 HZ0 HP HG ⊢
 have HZ : Hid (w0.heap[w.heap.size]? = some (.cells zeroCmd 28 (0, 0))) := HZ0
 clear HZ0
 have HN : Hid (Calls Tryz.prog 73 #[.pointer (some ⟨g, 0, none⟩)] w0 fun e w1 => e = .returned (.int .i64 4) ∧ RS w0 w1 g (numS s)) := Lib.hid (HS0.out.num.mono fun e w1 h => ⟨by rw [← HK.out]; exact h.1, h.2.1⟩)
 go_wp2_with (go_at_call 73; refine HN.out.mono ?_; rintro e w1 ⟨rfl, hs⟩; have HR := Lib.hid hs; clear hs; refine Stop.out ?_)
 unfold Stop
 have HA := Lib.hid (heap_alloc_new w1 (.cells zeroCmd 28))
 have HC := Lib.hid ((RC.start (cs := zeroCmd) HR.out).put #[.int .i64 4, .string ⟨#[]⟩, .string ⟨#[]⟩, .int .i64 0, .int .i64 0, .int .i64 0, .int .i64 0, .int .i64 0, .int .i64 0, .int .i64 0, .int .i64 0, .int .i64 0, .int .i64 0, .string ⟨#[]⟩, .bool false, .bool false, .string ⟨#[]⟩, .int .i64 0, .string ⟨#[]⟩, .string ⟨#[]⟩, .string ⟨#[]⟩, .slice none 0 0])
 have HO1 : Hid ((#[.int .i64 4, .string ⟨#[]⟩, .string ⟨#[]⟩, .int .i64 0, .int .i64 0, .int .i64 0, .int .i64 0, .int .i64 0, .int .i64 0, .int .i64 0, .int .i64 0, .int .i64 0, .int .i64 0, .string ⟨#[]⟩, .bool false, .bool false, .string ⟨#[]⟩, .int .i64 0, .string ⟨#[]⟩, .string ⟨#[]⟩, .string ⟨#[]⟩, .slice none 0 0] : Array Value).all (·.oneCell') = true) := Lib.hid (by simp [Value.oneCell'])
 go_wp2_with ((with_reducible refine wpList_store_row (o := ⟨none, _, _, _, _, _⟩) ?b1 28 (.tmp 5) (.tmp 12) ?b2 w1.heap.size #[.int .i64 4, .string ⟨#[]⟩, .string ⟨#[]⟩, .int .i64 0, .int .i64 0, .int .i64 0, .int .i64 0, .int .i64 0, .int .i64 0, .int .i64 0, .int .i64 0, .int .i64 0, .int .i64 0, .string ⟨#[]⟩, .bool false, .bool false, .string ⟨#[]⟩, .int .i64 0, .string ⟨#[]⟩, .string ⟨#[]⟩, .string ⟨#[]⟩, .slice none 0 0] ?b3 ?b4 28 zeroCmd HA.out ?b5 ?b6 ?b7 ?_); (case b1 => rfl); (case b2 => rfl); (case b3 => rfl); (case b4 => rfl); (case b5 => exact cells_info'); (case b6 => rfl); (case b7 => exact HO1.out); refine Stop.out ?_)
 unfold Stop
 generalize World.setRow _ _ _ = w2 at HC ⊢
 generalize w1.heap.size = bb at HC ⊢
 generalize Value.agg #[.int .i64 4, .string ⟨#[]⟩, .string ⟨#[]⟩, .int .i64 0, .int .i64 0, .int .i64 0, .int .i64 0, .int .i64 0, .int .i64 0, .int .i64 0, .int .i64 0, .int .i64 0, .int .i64 0, .string ⟨#[]⟩, .bool false, .bool false, .string ⟨#[]⟩, .int .i64 0, .string ⟨#[]⟩, .string ⟨#[]⟩, .string ⟨#[]⟩, .slice none 0 0] = vk
 clear HA HO1
 have HC1 : Hid (RC w0 w2 g (numS s) bb (kindC 4)) := HC
 clear HC
 have HC := HC1
 clear HC1
 have y0 := HC.out.at0
 have HSZ : Hid ((kindC 4).size = 22) := Lib.hid (kindC_size _)
 generalize hcs : kindC 4 = cs0 at HC HSZ
 have HCS : Hid (kindC 4 = cs0) := Lib.hid hcs
 clear hcs HR HN HS0
 go_wp2_with (go_at_call 74; refine (HC.out.text).mono ?_; rintro e w3 ⟨rfl, hs⟩; have HR1 := Lib.hid hs; clear hs; clear y0; refine Stop.out ?_)
 unfold Stop
 clear HC
 go_wp2_with (go_at_call 74; refine (HR1.out.text).mono ?_; rintro e w4 ⟨rfl, hs⟩; have HR2 := Lib.hid hs; clear hs; refine Stop.out ?_)
 unfold Stop
 clear HR1
 go_wp2_with ((with_reducible refine wpList_store_part (o := ⟨none, _, _, _, _, _⟩) ?a0 9 (.tmp 64) (.tmp 61) ?a1 bb 1 ?a2 (.string (textV (numS s))) [.string (textV (numS s))] 1 ?a3 ?a4 ?a5 ?a6 ?a7 cs0 28 HR2.out.box ?a8 ?_); (case a0 => rfl); (case a1 => rfl); (case a2 => rfl); (case a3 => kernel_rfl); (case a4 => rfl); (case a5 => rfl); (case a6 => intro u hu; rw [List.mem_singleton] at hu; subst hu; rfl); (case a7 => rfl); (case a8 => have := HSZ.out; simp; omega); refine Stop.out ?_)
 unfold Stop
 have HR3 := Lib.hid (HR2.out.put (putAt cs0 1 [.string (textV (numS s))]))
 have HSZn : Hid ((putAt cs0 1 [.string (textV (numS s))]).size = 22) := Lib.hid ((putAt_size (by have := HSZ.out; simp; omega)).trans HSZ.out)
 clear HSZ
 have HSZ := HSZn
 clear HSZn
 generalize World.setRow _ _ _ = w5 at HR3 ⊢
 generalize hcs : putAt cs0 1 [.string (textV (numS s))] = cs3 at HR3 HSZ
 have HCS3 : Hid (putAt cs0 1 [.string (textV (numS s))] = cs3) := Lib.hid hcs
 clear hcs HR2
 go_wp2_with ((with_reducible refine wpList_store_part (o := ⟨none, _, _, _, _, _⟩) ?a0 9 (.tmp 65) (.tmp 63) ?a1 bb 2 ?a2 (.string (textV (textS (numS s)))) [.string (textV (textS (numS s)))] 1 ?a3 ?a4 ?a5 ?a6 ?a7 cs3 28 HR3.out.box ?a8 ?_); (case a0 => rfl); (case a1 => rfl); (case a2 => rfl); (case a3 => kernel_rfl); (case a4 => rfl); (case a5 => rfl); (case a6 => intro u hu; rw [List.mem_singleton] at hu; subst hu; rfl); (case a7 => rfl); (case a8 => have := HSZ.out; simp; omega); refine Stop.out ?_)
 unfold Stop
 have HR4 := Lib.hid (HR3.out.put (putAt cs3 2 [.string (textV (textS (numS s)))]))
 have HSZn : Hid ((putAt cs3 2 [.string (textV (textS (numS s)))]).size = 22) := Lib.hid ((putAt_size (by have := HSZ.out; simp; omega)).trans HSZ.out)
 clear HSZ
 have HSZ := HSZn
 clear HSZn
 generalize World.setRow _ _ _ = w6 at HR4 ⊢
 generalize hcs : putAt cs3 2 [.string (textV (textS (numS s)))] = cs4 at HR4 HSZ
 have HCS4 : Hid (putAt cs3 2 [.string (textV (textS (numS s)))] = cs4) := Lib.hid hcs
 clear hcs HR3
 go_wp2_with (go_at_call 73; refine (HR4.out.num).mono ?_; rintro e w7 ⟨rfl, hs⟩; have HR5 := Lib.hid hs; clear hs; refine Stop.out ?_)
 unfold Stop
 clear HR4
 go_wp2_with (go_at_call 73; refine (HR5.out.num).mono ?_; rintro e w8 ⟨rfl, hs⟩; have HR6 := Lib.hid hs; clear hs; refine Stop.out ?_)
 unfold Stop
 clear HR5
 go_wp2_with ((with_reducible refine wpList_store_part (o := ⟨none, _, _, _, _, _⟩) ?a0 3 (.tmp 70) (.tmp 67) ?a1 bb 5 ?a2 (.int .i64 (numV (textS (textS (numS s))))) [.int .i64 (numV (textS (textS (numS s))))] 1 ?a3 ?a4 ?a5 ?a6 ?a7 cs4 28 HR6.out.box ?a8 ?_); (case a0 => rfl); (case a1 => rfl); (case a2 => rfl); (case a3 => kernel_rfl); (case a4 => rfl); (case a5 => rfl); (case a6 => intro u hu; rw [List.mem_singleton] at hu; subst hu; rfl); (case a7 => rfl); (case a8 => have := HSZ.out; simp; omega); refine Stop.out ?_)
 unfold Stop
 have HR7 := Lib.hid (HR6.out.put (putAt cs4 5 [.int .i64 (numV (textS (textS (numS s))))]))
 have HSZn : Hid ((putAt cs4 5 [.int .i64 (numV (textS (textS (numS s))))]).size = 22) := Lib.hid ((putAt_size (by have := HSZ.out; simp; omega)).trans HSZ.out)
 clear HSZ
 have HSZ := HSZn
 clear HSZn
 generalize World.setRow _ _ _ = w9 at HR7 ⊢
 generalize hcs : putAt cs4 5 [.int .i64 (numV (textS (textS (numS s))))] = cs7 at HR7 HSZ
 have HCS7 : Hid (putAt cs4 5 [.int .i64 (numV (textS (textS (numS s))))] = cs7) := Lib.hid hcs
 clear hcs HR6
 go_wp2_with ((with_reducible refine wpList_store_part (o := ⟨none, _, _, _, _, _⟩) ?a0 3 (.tmp 71) (.tmp 69) ?a1 bb 6 ?a2 (.int .i64 (numV (numS (textS (textS (numS s)))))) [.int .i64 (numV (numS (textS (textS (numS s)))))] 1 ?a3 ?a4 ?a5 ?a6 ?a7 cs7 28 HR7.out.box ?a8 ?_); (case a0 => rfl); (case a1 => rfl); (case a2 => rfl); (case a3 => kernel_rfl); (case a4 => rfl); (case a5 => rfl); (case a6 => intro u hu; rw [List.mem_singleton] at hu; subst hu; rfl); (case a7 => rfl); (case a8 => have := HSZ.out; simp; omega); refine Stop.out ?_)
 unfold Stop
 have HR8 := Lib.hid (HR7.out.put (putAt cs7 6 [.int .i64 (numV (numS (textS (textS (numS s)))))]))
 have HSZn : Hid ((putAt cs7 6 [.int .i64 (numV (numS (textS (textS (numS s)))))]).size = 22) := Lib.hid ((putAt_size (by have := HSZ.out; simp; omega)).trans HSZ.out)
 clear HSZ
 have HSZ := HSZn
 clear HSZn
 generalize World.setRow _ _ _ = w10 at HR8 ⊢
 generalize hcs : putAt cs7 6 [.int .i64 (numV (numS (textS (textS (numS s)))))] = cs8 at HR8 HSZ
 have HCS8 : Hid (putAt cs7 6 [.int .i64 (numV (numS (textS (textS (numS s)))))] = cs8) := Lib.hid hcs
 clear hcs HR7
 have HONE : Hid (cs8.all (·.oneCell') = true) := Lib.hid (by rw [← HCS8.out, ← HCS7.out, ← HCS4.out, ← HCS3.out, ← HCS.out]; simp [putAt, kindC, Value.oneCell'])
 have HI := Lib.hid (cmd_info HSZ.out)
 have HX := Lib.hid HR8.out.box
 have HZ9 := Lib.hid ((HR8.out.below w.heap.size HG.out.2 (Nat.ne_of_gt HG.out.1)).trans HZ.out)
 go_wp2_with ((with_reducible refine wpList_load_row (o := ⟨some 112, _, _, _, _, _⟩) ?a1 28 (.tmp 5) ?a2 bb ?a3 28 cs8 (0, 0) _ HX.out Tryz.underlying28 ?a4 HI.out ?_); (case a1 => rfl); (case a2 => rfl); (case a3 => rfl); (case a4 => rfl); refine Stop.out ?_)
 unfold Stop
 go_wp2_with ((with_reducible refine wpList_store_row (o := ⟨none, _, _, _, _, _⟩) ?b1 28 (.tmp 2) (.tmp 112) ?b2 w.heap.size cs8 ?b3 ?b4 28 zeroCmd HZ9.out HI.out ?b5 ?b6 ?_); (case b1 => rfl); (case b2 => rfl); (case b3 => rfl); (case b4 => rfl); (case b5 => exact HSZ.out.symm); (case b6 => exact HONE.out); refine Stop.out ?_)
 unfold Stop
 have HP9 := Lib.hid (setRow_heap _ w.heap.size _ cs8 _ _ HZ9.out)
 go_wp2
 exact bodyPost_ret (v := .agg cs8) (results_cell_row Tryz.results45 _ _ w.heap.size 28 cs8 (0, 0) _ rfl HP9.out Tryz.underlying28 rfl HI.out) rfl ⟨cs8, rfl, by unfold putAll; rw [← HCS8.out, ← HCS7.out, ← HCS4.out, ← HCS3.out, ← HCS.out]; rfl, (HP.out _ _ HR8.out.rs).far (only_setRow _ _ _) (Nat.le_refl _)⟩
end Go.Proofs.YtplghpamckdklaaGreat
