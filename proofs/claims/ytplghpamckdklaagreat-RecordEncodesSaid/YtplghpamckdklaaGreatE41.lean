/- A command, read, by its kind (5, 6, 7). A command, read, by its kind (9, 10, 11). -/
import Derived.Test.YtplghpamckdklaaGreatE40
import Derived.Deep.Cut
import Derived.Deep.DeepCutAuto
import Derived.Laws.CopyOwn
namespace Go.Proofs.YtplghpamckdklaaGreat
open Go.RowKit Go.ChangeShapes
set_option maxRecDepth 100000
set_option linter.unusedSimpArgs false
set_option linter.unusedVariables false

set_option maxHeartbeats 4000000 in
theorem read_5 (g : Nat) (s : Bool × Text) (w : World) (hr : Rdr w g s.1 s.2) (hk : numV s = 5) : Calls Tryz.prog 45 #[.pointer (some ⟨g, 0, none⟩)] w fun e w1 => ∃ cs, e = .returned (.agg cs) ∧ cs = putAll (kindC 5) [(2, [.string (textV (numS s))]), (10, [.int .i64 2, .int .i64 (numV (textS (numS s))), .int .i64 (numV (numS (textS (numS s))))]), (7, [.int .i64 (numV (numS (numS (textS (numS s)))))]), (8, [.int .i64 (numV (numS (numS (numS (textS (numS s))))))])] ∧ RS w w1 g (numS (numS (numS (numS (textS (numS s)))))) := by
 have HS0 := Lib.hid (RS.start (hr.on (below_alloc w (.cells zeroCmd 28))))
 have HZ0 := Lib.hid (heap_alloc_new w (.cells zeroCmd 28))
 have hgw : g < w.heap.size := heapLt hr.choose_spec.choose_spec.1
 have HP : Hid (∀ w1 s1, RS (w.alloc (.cells zeroCmd 28)) w1 g s1 → RS w w1 g s1) := Lib.hid (fun w1 s1 h => ⟨h.1, (Only.of_below (below_alloc w (.cells zeroCmd 28))).trans h.2.1, hgw⟩)
 have HG : Hid (g < w.heap.size ∧ w.heap.size < (w.alloc (.cells zeroCmd 28)).heap.size) := Lib.hid ⟨hgw, by simp⟩
 have HK := Lib.hid hk
 have hmf : ∀ (fn : Fn) (first cap : Array Value) (w : World), (Instr.makeFunc fn first cap).run Tryz.prog w = .ok (.func fn first cap) w := fun _ _ _ _ => rfl
 clear hr hgw hk
 go_enter Tryz.func45, Tryz.ntmps45
 go_upto_region 2 with fail
 generalize World.alloc w _ = w0 at HS0 HZ0 HP HG ⊢
 have HZ : Hid (w0.heap[w.heap.size]? = some (.cells zeroCmd 28 (0, 0))) := HZ0
 clear HZ0
 have HN : Hid (Calls Tryz.prog 73 #[.pointer (some ⟨g, 0, none⟩)] w0 fun e w1 => e = .returned (.int .i64 5) ∧ RS w0 w1 g (numS s)) := Lib.hid (HS0.out.num.mono fun e w1 h => ⟨by rw [← HK.out]; exact h.1, h.2.1⟩)
 go_wp2_with (go_at_call 73; refine HN.out.mono ?_; rintro e w1 ⟨rfl, hs⟩; have HR := Lib.hid hs; clear hs; refine Stop.out ?_)
 unfold Stop
 have HA := Lib.hid (heap_alloc_new w1 (.cells zeroCmd 28))
 have HC := Lib.hid ((RC.start (cs := zeroCmd) HR.out).put #[.int .i64 5, .string ⟨#[]⟩, .string ⟨#[]⟩, .int .i64 0, .int .i64 0, .int .i64 0, .int .i64 0, .int .i64 0, .int .i64 0, .int .i64 0, .int .i64 0, .int .i64 0, .int .i64 0, .string ⟨#[]⟩, .bool false, .bool false, .string ⟨#[]⟩, .int .i64 0, .string ⟨#[]⟩, .string ⟨#[]⟩, .string ⟨#[]⟩, .slice none 0 0])
 have HO1 : Hid ((#[.int .i64 5, .string ⟨#[]⟩, .string ⟨#[]⟩, .int .i64 0, .int .i64 0, .int .i64 0, .int .i64 0, .int .i64 0, .int .i64 0, .int .i64 0, .int .i64 0, .int .i64 0, .int .i64 0, .string ⟨#[]⟩, .bool false, .bool false, .string ⟨#[]⟩, .int .i64 0, .string ⟨#[]⟩, .string ⟨#[]⟩, .string ⟨#[]⟩, .slice none 0 0] : Array Value).all (·.oneCell') = true) := Lib.hid (by simp [Value.oneCell'])
 go_wp2_with ((with_reducible refine wpList_store_row (o := ⟨none, _, _, _, _, _⟩) ?b1 28 (.tmp 5) (.tmp 12) ?b2 w1.heap.size #[.int .i64 5, .string ⟨#[]⟩, .string ⟨#[]⟩, .int .i64 0, .int .i64 0, .int .i64 0, .int .i64 0, .int .i64 0, .int .i64 0, .int .i64 0, .int .i64 0, .int .i64 0, .int .i64 0, .string ⟨#[]⟩, .bool false, .bool false, .string ⟨#[]⟩, .int .i64 0, .string ⟨#[]⟩, .string ⟨#[]⟩, .string ⟨#[]⟩, .slice none 0 0] ?b3 ?b4 28 zeroCmd HA.out ?b5 ?b6 ?b7 ?_); (case b1 => rfl); (case b2 => rfl); (case b3 => rfl); (case b4 => rfl); (case b5 => exact cells_info'); (case b6 => rfl); (case b7 => exact HO1.out); refine Stop.out ?_)
 unfold Stop
 generalize World.setRow _ _ _ = w2 at HC ⊢
 generalize w1.heap.size = bb at HC ⊢
 generalize Value.agg #[.int .i64 5, .string ⟨#[]⟩, .string ⟨#[]⟩, .int .i64 0, .int .i64 0, .int .i64 0, .int .i64 0, .int .i64 0, .int .i64 0, .int .i64 0, .int .i64 0, .int .i64 0, .int .i64 0, .string ⟨#[]⟩, .bool false, .bool false, .string ⟨#[]⟩, .int .i64 0, .string ⟨#[]⟩, .string ⟨#[]⟩, .string ⟨#[]⟩, .slice none 0 0] = vk
 clear HA HO1
 have HC1 : Hid (RC w0 w2 g (numS s) bb (kindC 5)) := HC
 clear HC
 have HC := HC1
 clear HC1
 have y0 := HC.out.at0
 have HSZ : Hid ((kindC 5).size = 22) := Lib.hid (kindC_size _)
 generalize hcs : kindC 5 = cs0 at HC HSZ
 have HCS : Hid (kindC 5 = cs0) := Lib.hid hcs
 clear hcs HR HN HS0
 go_wp2_with (go_at_call 74; refine (HC.out.text).mono ?_; rintro e w3 ⟨rfl, hs⟩; have HR1 := Lib.hid hs; clear hs; clear y0; refine Stop.out ?_)
 unfold Stop
 clear HC
 go_wp2_with ((with_reducible refine wpList_store_part (o := ⟨none, _, _, _, _, _⟩) ?a0 9 (.tmp 74) (.tmp 73) ?a1 bb 2 ?a2 (.string (textV (numS s))) [.string (textV (numS s))] 1 ?a3 ?a4 ?a5 ?a6 ?a7 cs0 28 HR1.out.box ?a8 ?_); (case a0 => rfl); (case a1 => rfl); (case a2 => rfl); (case a3 => kernel_rfl); (case a4 => rfl); (case a5 => rfl); (case a6 => intro u hu; rw [List.mem_singleton] at hu; subst hu; rfl); (case a7 => rfl); (case a8 => have := HSZ.out; simp; omega); refine Stop.out ?_)
 unfold Stop
 have HR2 := Lib.hid (HR1.out.put (putAt cs0 2 [.string (textV (numS s))]))
 have HSZn : Hid ((putAt cs0 2 [.string (textV (numS s))]).size = 22) := Lib.hid ((putAt_size (by have := HSZ.out; simp; omega)).trans HSZ.out)
 clear HSZ
 have HSZ := HSZn
 clear HSZn
 generalize World.setRow _ _ _ = w4 at HR2 ⊢
 generalize hcs : putAt cs0 2 [.string (textV (numS s))] = cs2 at HR2 HSZ
 have HCS2 : Hid (putAt cs0 2 [.string (textV (numS s))] = cs2) := Lib.hid hcs
 clear hcs HR1
 go_wp2_with (go_at_call 73; refine (HR2.out.num).mono ?_; rintro e w5 ⟨rfl, hs⟩; have HR3 := Lib.hid hs; clear hs; refine Stop.out ?_)
 unfold Stop
 clear HR2
 go_wp2_with (go_at_call 73; refine (HR3.out.num).mono ?_; rintro e w6 ⟨rfl, hs⟩; have HR4 := Lib.hid hs; clear hs; refine Stop.out ?_)
 unfold Stop
 clear HR3
 go_wp2_with ((with_reducible refine wpList_store_part (o := ⟨none, _, _, _, _, _⟩) ?a0 23 (.tmp 80) (.tmp 79) ?a1 bb 10 ?a2 (.agg #[.int .i64 2, .int .i64 (numV (textS (numS s))), .int .i64 (numV (numS (textS (numS s))))]) [.int .i64 2, .int .i64 (numV (textS (numS s))), .int .i64 (numV (numS (textS (numS s))))] 3 ?a3 ?a4 ?a5 ?a6 ?a7 cs2 28 HR4.out.box ?a8 ?_); (case a0 => rfl); (case a1 => rfl); (case a2 => rfl); (case a3 => kernel_rfl); (case a4 => rfl); (case a5 => rfl); (case a6 => intro u hu; simp only [List.mem_cons, List.not_mem_nil, or_false] at hu; rcases hu with rfl | rfl | rfl <;> rfl); (case a7 => rfl); (case a8 => have := HSZ.out; simp; omega); refine Stop.out ?_)
 unfold Stop
 have HR5 := Lib.hid (HR4.out.put (putAt cs2 10 [.int .i64 2, .int .i64 (numV (textS (numS s))), .int .i64 (numV (numS (textS (numS s))))]))
 have HSZn : Hid ((putAt cs2 10 [.int .i64 2, .int .i64 (numV (textS (numS s))), .int .i64 (numV (numS (textS (numS s))))]).size = 22) := Lib.hid ((putAt_size (by have := HSZ.out; simp; omega)).trans HSZ.out)
 clear HSZ
 have HSZ := HSZn
 clear HSZn
 generalize World.setRow _ _ _ = w7 at HR5 ⊢
 generalize hcs : putAt cs2 10 [.int .i64 2, .int .i64 (numV (textS (numS s))), .int .i64 (numV (numS (textS (numS s))))] = cs5 at HR5 HSZ
 have HCS5 : Hid (putAt cs2 10 [.int .i64 2, .int .i64 (numV (textS (numS s))), .int .i64 (numV (numS (textS (numS s))))] = cs5) := Lib.hid hcs
 clear hcs HR4
 go_wp2_with (go_at_call 73; refine (HR5.out.num).mono ?_; rintro e w8 ⟨rfl, hs⟩; have HR6 := Lib.hid hs; clear hs; refine Stop.out ?_)
 unfold Stop
 clear HR5
 go_wp2_with (go_at_call 73; refine (HR6.out.num).mono ?_; rintro e w9 ⟨rfl, hs⟩; have HR7 := Lib.hid hs; clear hs; refine Stop.out ?_)
 unfold Stop
 clear HR6
 go_wp2_with ((with_reducible refine wpList_store_part (o := ⟨none, _, _, _, _, _⟩) ?a0 3 (.tmp 85) (.tmp 82) ?a1 bb 7 ?a2 (.int .i64 (numV (numS (numS (textS (numS s)))))) [.int .i64 (numV (numS (numS (textS (numS s)))))] 1 ?a3 ?a4 ?a5 ?a6 ?a7 cs5 28 HR7.out.box ?a8 ?_); (case a0 => rfl); (case a1 => rfl); (case a2 => rfl); (case a3 => kernel_rfl); (case a4 => rfl); (case a5 => rfl); (case a6 => intro u hu; rw [List.mem_singleton] at hu; subst hu; rfl); (case a7 => rfl); (case a8 => have := HSZ.out; simp; omega); refine Stop.out ?_)
 unfold Stop
 have HR8 := Lib.hid (HR7.out.put (putAt cs5 7 [.int .i64 (numV (numS (numS (textS (numS s)))))]))
 have HSZn : Hid ((putAt cs5 7 [.int .i64 (numV (numS (numS (textS (numS s)))))]).size = 22) := Lib.hid ((putAt_size (by have := HSZ.out; simp; omega)).trans HSZ.out)
 clear HSZ
 have HSZ := HSZn
 clear HSZn
 generalize World.setRow _ _ _ = w10 at HR8 ⊢
 generalize hcs : putAt cs5 7 [.int .i64 (numV (numS (numS (textS (numS s)))))] = cs8 at HR8 HSZ
 have HCS8 : Hid (putAt cs5 7 [.int .i64 (numV (numS (numS (textS (numS s)))))] = cs8) := Lib.hid hcs
 clear hcs HR7
 go_wp2_with ((with_reducible refine wpList_store_part (o := ⟨none, _, _, _, _, _⟩) ?a0 3 (.tmp 86) (.tmp 84) ?a1 bb 8 ?a2 (.int .i64 (numV (numS (numS (numS (textS (numS s))))))) [.int .i64 (numV (numS (numS (numS (textS (numS s))))))] 1 ?a3 ?a4 ?a5 ?a6 ?a7 cs8 28 HR8.out.box ?a8 ?_); (case a0 => rfl); (case a1 => rfl); (case a2 => rfl); (case a3 => kernel_rfl); (case a4 => rfl); (case a5 => rfl); (case a6 => intro u hu; rw [List.mem_singleton] at hu; subst hu; rfl); (case a7 => rfl); (case a8 => have := HSZ.out; simp; omega); refine Stop.out ?_)
 unfold Stop
 have HR9 := Lib.hid (HR8.out.put (putAt cs8 8 [.int .i64 (numV (numS (numS (numS (textS (numS s))))))]))
 have HSZn : Hid ((putAt cs8 8 [.int .i64 (numV (numS (numS (numS (textS (numS s))))))]).size = 22) := Lib.hid ((putAt_size (by have := HSZ.out; simp; omega)).trans HSZ.out)
 clear HSZ
 have HSZ := HSZn
 clear HSZn
 generalize World.setRow _ _ _ = w11 at HR9 ⊢
 generalize hcs : putAt cs8 8 [.int .i64 (numV (numS (numS (numS (textS (numS s))))))] = cs9 at HR9 HSZ
 have HCS9 : Hid (putAt cs8 8 [.int .i64 (numV (numS (numS (numS (textS (numS s))))))] = cs9) := Lib.hid hcs
 clear hcs HR8
 have HONE : Hid (cs9.all (·.oneCell') = true) := Lib.hid (by rw [← HCS9.out, ← HCS8.out, ← HCS5.out, ← HCS2.out, ← HCS.out]; simp [putAt, kindC, Value.oneCell'])
 have HI := Lib.hid (cmd_info HSZ.out)
 have HX := Lib.hid HR9.out.box
 have HZ9 := Lib.hid ((HR9.out.below w.heap.size HG.out.2 (Nat.ne_of_gt HG.out.1)).trans HZ.out)
 go_wp2_with ((with_reducible refine wpList_load_row (o := ⟨some 112, _, _, _, _, _⟩) ?a1 28 (.tmp 5) ?a2 bb ?a3 28 cs9 (0, 0) _ HX.out Tryz.underlying28 ?a4 HI.out ?_); (case a1 => rfl); (case a2 => rfl); (case a3 => rfl); (case a4 => rfl); refine Stop.out ?_)
 unfold Stop
 go_wp2_with ((with_reducible refine wpList_store_row (o := ⟨none, _, _, _, _, _⟩) ?b1 28 (.tmp 2) (.tmp 112) ?b2 w.heap.size cs9 ?b3 ?b4 28 zeroCmd HZ9.out HI.out ?b5 ?b6 ?_); (case b1 => rfl); (case b2 => rfl); (case b3 => rfl); (case b4 => rfl); (case b5 => exact HSZ.out.symm); (case b6 => exact HONE.out); refine Stop.out ?_)
 unfold Stop
 have HP9 := Lib.hid (setRow_heap _ w.heap.size _ cs9 _ _ HZ9.out)
 go_wp2
 exact bodyPost_ret (v := .agg cs9) (results_cell_row Tryz.results45 _ _ w.heap.size 28 cs9 (0, 0) _ rfl HP9.out Tryz.underlying28 rfl HI.out) rfl ⟨cs9, rfl, by unfold putAll; rw [← HCS9.out, ← HCS8.out, ← HCS5.out, ← HCS2.out, ← HCS.out]; rfl, (HP.out _ _ HR9.out.rs).far (only_setRow _ _ _) (Nat.le_refl _)⟩
set_option maxHeartbeats 4000000 in
theorem read_6 (g : Nat) (s : Bool × Text) (w : World) (hr : Rdr w g s.1 s.2) (hk : numV s = 6) : Calls Tryz.prog 45 #[.pointer (some ⟨g, 0, none⟩)] w fun e w1 => ∃ cs, e = .returned (.agg cs) ∧ cs = putAll (kindC 6) [(2, [.string (textV (numS s))])] ∧ RS w w1 g (textS (numS s)) := by
 have HS0 := Lib.hid (RS.start (hr.on (below_alloc w (.cells zeroCmd 28))))
 have HZ0 := Lib.hid (heap_alloc_new w (.cells zeroCmd 28))
 have hgw : g < w.heap.size := heapLt hr.choose_spec.choose_spec.1
 have HP : Hid (∀ w1 s1, RS (w.alloc (.cells zeroCmd 28)) w1 g s1 → RS w w1 g s1) := Lib.hid (fun w1 s1 h => ⟨h.1, (Only.of_below (below_alloc w (.cells zeroCmd 28))).trans h.2.1, hgw⟩)
 have HG : Hid (g < w.heap.size ∧ w.heap.size < (w.alloc (.cells zeroCmd 28)).heap.size) := Lib.hid ⟨hgw, by simp⟩
 have HK := Lib.hid hk
 have hmf : ∀ (fn : Fn) (first cap : Array Value) (w : World), (Instr.makeFunc fn first cap).run Tryz.prog w = .ok (.func fn first cap) w := fun _ _ _ _ => rfl
 clear hr hgw hk
 go_enter Tryz.func45, Tryz.ntmps45
 go_upto_region 2 with fail
 generalize World.alloc w _ = w0 at HS0 HZ0 HP HG ⊢
 have HZ : Hid (w0.heap[w.heap.size]? = some (.cells zeroCmd 28 (0, 0))) := HZ0
 clear HZ0
 have HN : Hid (Calls Tryz.prog 73 #[.pointer (some ⟨g, 0, none⟩)] w0 fun e w1 => e = .returned (.int .i64 6) ∧ RS w0 w1 g (numS s)) := Lib.hid (HS0.out.num.mono fun e w1 h => ⟨by rw [← HK.out]; exact h.1, h.2.1⟩)
 go_wp2_with (go_at_call 73; refine HN.out.mono ?_; rintro e w1 ⟨rfl, hs⟩; have HR := Lib.hid hs; clear hs; refine Stop.out ?_)
 unfold Stop
 have HA := Lib.hid (heap_alloc_new w1 (.cells zeroCmd 28))
 have HC := Lib.hid ((RC.start (cs := zeroCmd) HR.out).put #[.int .i64 6, .string ⟨#[]⟩, .string ⟨#[]⟩, .int .i64 0, .int .i64 0, .int .i64 0, .int .i64 0, .int .i64 0, .int .i64 0, .int .i64 0, .int .i64 0, .int .i64 0, .int .i64 0, .string ⟨#[]⟩, .bool false, .bool false, .string ⟨#[]⟩, .int .i64 0, .string ⟨#[]⟩, .string ⟨#[]⟩, .string ⟨#[]⟩, .slice none 0 0])
 have HO1 : Hid ((#[.int .i64 6, .string ⟨#[]⟩, .string ⟨#[]⟩, .int .i64 0, .int .i64 0, .int .i64 0, .int .i64 0, .int .i64 0, .int .i64 0, .int .i64 0, .int .i64 0, .int .i64 0, .int .i64 0, .string ⟨#[]⟩, .bool false, .bool false, .string ⟨#[]⟩, .int .i64 0, .string ⟨#[]⟩, .string ⟨#[]⟩, .string ⟨#[]⟩, .slice none 0 0] : Array Value).all (·.oneCell') = true) := Lib.hid (by simp [Value.oneCell'])
 go_wp2_with ((with_reducible refine wpList_store_row (o := ⟨none, _, _, _, _, _⟩) ?b1 28 (.tmp 5) (.tmp 12) ?b2 w1.heap.size #[.int .i64 6, .string ⟨#[]⟩, .string ⟨#[]⟩, .int .i64 0, .int .i64 0, .int .i64 0, .int .i64 0, .int .i64 0, .int .i64 0, .int .i64 0, .int .i64 0, .int .i64 0, .int .i64 0, .string ⟨#[]⟩, .bool false, .bool false, .string ⟨#[]⟩, .int .i64 0, .string ⟨#[]⟩, .string ⟨#[]⟩, .string ⟨#[]⟩, .slice none 0 0] ?b3 ?b4 28 zeroCmd HA.out ?b5 ?b6 ?b7 ?_); (case b1 => rfl); (case b2 => rfl); (case b3 => rfl); (case b4 => rfl); (case b5 => exact cells_info'); (case b6 => rfl); (case b7 => exact HO1.out); refine Stop.out ?_)
 unfold Stop
 generalize World.setRow _ _ _ = w2 at HC ⊢
 generalize w1.heap.size = bb at HC ⊢
 generalize Value.agg #[.int .i64 6, .string ⟨#[]⟩, .string ⟨#[]⟩, .int .i64 0, .int .i64 0, .int .i64 0, .int .i64 0, .int .i64 0, .int .i64 0, .int .i64 0, .int .i64 0, .int .i64 0, .int .i64 0, .string ⟨#[]⟩, .bool false, .bool false, .string ⟨#[]⟩, .int .i64 0, .string ⟨#[]⟩, .string ⟨#[]⟩, .string ⟨#[]⟩, .slice none 0 0] = vk
 clear HA HO1
 have HC1 : Hid (RC w0 w2 g (numS s) bb (kindC 6)) := HC
 clear HC
 have HC := HC1
 clear HC1
 have y0 := HC.out.at0
 have HSZ : Hid ((kindC 6).size = 22) := Lib.hid (kindC_size _)
 generalize hcs : kindC 6 = cs0 at HC HSZ
 have HCS : Hid (kindC 6 = cs0) := Lib.hid hcs
 clear hcs HR HN HS0
 go_wp2_with (go_at_call 74; refine (HC.out.text).mono ?_; rintro e w3 ⟨rfl, hs⟩; have HR1 := Lib.hid hs; clear hs; clear y0; refine Stop.out ?_)
 unfold Stop
 clear HC
 go_wp2_with ((with_reducible refine wpList_store_part (o := ⟨none, _, _, _, _, _⟩) ?a0 9 (.tmp 89) (.tmp 88) ?a1 bb 2 ?a2 (.string (textV (numS s))) [.string (textV (numS s))] 1 ?a3 ?a4 ?a5 ?a6 ?a7 cs0 28 HR1.out.box ?a8 ?_); (case a0 => rfl); (case a1 => rfl); (case a2 => rfl); (case a3 => kernel_rfl); (case a4 => rfl); (case a5 => rfl); (case a6 => intro u hu; rw [List.mem_singleton] at hu; subst hu; rfl); (case a7 => rfl); (case a8 => have := HSZ.out; simp; omega); refine Stop.out ?_)
 unfold Stop
 have HR2 := Lib.hid (HR1.out.put (putAt cs0 2 [.string (textV (numS s))]))
 have HSZn : Hid ((putAt cs0 2 [.string (textV (numS s))]).size = 22) := Lib.hid ((putAt_size (by have := HSZ.out; simp; omega)).trans HSZ.out)
 clear HSZ
 have HSZ := HSZn
 clear HSZn
 generalize World.setRow _ _ _ = w4 at HR2 ⊢
 generalize hcs : putAt cs0 2 [.string (textV (numS s))] = cs2 at HR2 HSZ
 have HCS2 : Hid (putAt cs0 2 [.string (textV (numS s))] = cs2) := Lib.hid hcs
 clear hcs HR1
 have HONE : Hid (cs2.all (·.oneCell') = true) := Lib.hid (by rw [← HCS2.out, ← HCS.out]; simp [putAt, kindC, Value.oneCell'])
 have HI := Lib.hid (cmd_info HSZ.out)
 have HX := Lib.hid HR2.out.box
 have HZ9 := Lib.hid ((HR2.out.below w.heap.size HG.out.2 (Nat.ne_of_gt HG.out.1)).trans HZ.out)
 go_wp2_with ((with_reducible refine wpList_load_row (o := ⟨some 112, _, _, _, _, _⟩) ?a1 28 (.tmp 5) ?a2 bb ?a3 28 cs2 (0, 0) _ HX.out Tryz.underlying28 ?a4 HI.out ?_); (case a1 => rfl); (case a2 => rfl); (case a3 => rfl); (case a4 => rfl); refine Stop.out ?_)
 unfold Stop
 go_wp2_with ((with_reducible refine wpList_store_row (o := ⟨none, _, _, _, _, _⟩) ?b1 28 (.tmp 2) (.tmp 112) ?b2 w.heap.size cs2 ?b3 ?b4 28 zeroCmd HZ9.out HI.out ?b5 ?b6 ?_); (case b1 => rfl); (case b2 => rfl); (case b3 => rfl); (case b4 => rfl); (case b5 => exact HSZ.out.symm); (case b6 => exact HONE.out); refine Stop.out ?_)
 unfold Stop
 have HP9 := Lib.hid (setRow_heap _ w.heap.size _ cs2 _ _ HZ9.out)
 go_wp2
 exact bodyPost_ret (v := .agg cs2) (results_cell_row Tryz.results45 _ _ w.heap.size 28 cs2 (0, 0) _ rfl HP9.out Tryz.underlying28 rfl HI.out) rfl ⟨cs2, rfl, by unfold putAll; rw [← HCS2.out, ← HCS.out]; rfl, (HP.out _ _ HR2.out.rs).far (only_setRow _ _ _) (Nat.le_refl _)⟩
set_option maxHeartbeats 4000000 in
theorem read_7 (g : Nat) (s : Bool × Text) (w : World) (hr : Rdr w g s.1 s.2) (hk : numV s = 7) : Calls Tryz.prog 45 #[.pointer (some ⟨g, 0, none⟩)] w fun e w1 => ∃ cs, e = .returned (.agg cs) ∧ cs = putAll (kindC 7) [(10, [.int .i64 3, .int .i64 (numV (numS s)), .int .i64 1]), (7, [.int .i64 (numV (numS (numS s)))])] ∧ RS w w1 g (numS (numS (numS s))) := by
 have HS0 := Lib.hid (RS.start (hr.on (below_alloc w (.cells zeroCmd 28))))
 have HZ0 := Lib.hid (heap_alloc_new w (.cells zeroCmd 28))
 have hgw : g < w.heap.size := heapLt hr.choose_spec.choose_spec.1
 have HP : Hid (∀ w1 s1, RS (w.alloc (.cells zeroCmd 28)) w1 g s1 → RS w w1 g s1) := Lib.hid (fun w1 s1 h => ⟨h.1, (Only.of_below (below_alloc w (.cells zeroCmd 28))).trans h.2.1, hgw⟩)
 have HG : Hid (g < w.heap.size ∧ w.heap.size < (w.alloc (.cells zeroCmd 28)).heap.size) := Lib.hid ⟨hgw, by simp⟩
 have HK := Lib.hid hk
 have hmf : ∀ (fn : Fn) (first cap : Array Value) (w : World), (Instr.makeFunc fn first cap).run Tryz.prog w = .ok (.func fn first cap) w := fun _ _ _ _ => rfl
 clear hr hgw hk
 go_enter Tryz.func45, Tryz.ntmps45
 go_upto_region 2 with fail
 generalize World.alloc w _ = w0 at HS0 HZ0 HP HG ⊢
 have HZ : Hid (w0.heap[w.heap.size]? = some (.cells zeroCmd 28 (0, 0))) := HZ0
 clear HZ0
 have HN : Hid (Calls Tryz.prog 73 #[.pointer (some ⟨g, 0, none⟩)] w0 fun e w1 => e = .returned (.int .i64 7) ∧ RS w0 w1 g (numS s)) := Lib.hid (HS0.out.num.mono fun e w1 h => ⟨by rw [← HK.out]; exact h.1, h.2.1⟩)
 go_wp2_with (go_at_call 73; refine HN.out.mono ?_; rintro e w1 ⟨rfl, hs⟩; have HR := Lib.hid hs; clear hs; refine Stop.out ?_)
 unfold Stop
 have HA := Lib.hid (heap_alloc_new w1 (.cells zeroCmd 28))
 have HC := Lib.hid ((RC.start (cs := zeroCmd) HR.out).put #[.int .i64 7, .string ⟨#[]⟩, .string ⟨#[]⟩, .int .i64 0, .int .i64 0, .int .i64 0, .int .i64 0, .int .i64 0, .int .i64 0, .int .i64 0, .int .i64 0, .int .i64 0, .int .i64 0, .string ⟨#[]⟩, .bool false, .bool false, .string ⟨#[]⟩, .int .i64 0, .string ⟨#[]⟩, .string ⟨#[]⟩, .string ⟨#[]⟩, .slice none 0 0])
 have HO1 : Hid ((#[.int .i64 7, .string ⟨#[]⟩, .string ⟨#[]⟩, .int .i64 0, .int .i64 0, .int .i64 0, .int .i64 0, .int .i64 0, .int .i64 0, .int .i64 0, .int .i64 0, .int .i64 0, .int .i64 0, .string ⟨#[]⟩, .bool false, .bool false, .string ⟨#[]⟩, .int .i64 0, .string ⟨#[]⟩, .string ⟨#[]⟩, .string ⟨#[]⟩, .slice none 0 0] : Array Value).all (·.oneCell') = true) := Lib.hid (by simp [Value.oneCell'])
 go_wp2_with ((with_reducible refine wpList_store_row (o := ⟨none, _, _, _, _, _⟩) ?b1 28 (.tmp 5) (.tmp 12) ?b2 w1.heap.size #[.int .i64 7, .string ⟨#[]⟩, .string ⟨#[]⟩, .int .i64 0, .int .i64 0, .int .i64 0, .int .i64 0, .int .i64 0, .int .i64 0, .int .i64 0, .int .i64 0, .int .i64 0, .int .i64 0, .string ⟨#[]⟩, .bool false, .bool false, .string ⟨#[]⟩, .int .i64 0, .string ⟨#[]⟩, .string ⟨#[]⟩, .string ⟨#[]⟩, .slice none 0 0] ?b3 ?b4 28 zeroCmd HA.out ?b5 ?b6 ?b7 ?_); (case b1 => rfl); (case b2 => rfl); (case b3 => rfl); (case b4 => rfl); (case b5 => exact cells_info'); (case b6 => rfl); (case b7 => exact HO1.out); refine Stop.out ?_)
 unfold Stop
 generalize World.setRow _ _ _ = w2 at HC ⊢
 generalize w1.heap.size = bb at HC ⊢
 generalize Value.agg #[.int .i64 7, .string ⟨#[]⟩, .string ⟨#[]⟩, .int .i64 0, .int .i64 0, .int .i64 0, .int .i64 0, .int .i64 0, .int .i64 0, .int .i64 0, .int .i64 0, .int .i64 0, .int .i64 0, .string ⟨#[]⟩, .bool false, .bool false, .string ⟨#[]⟩, .int .i64 0, .string ⟨#[]⟩, .string ⟨#[]⟩, .string ⟨#[]⟩, .slice none 0 0] = vk
 clear HA HO1
 have HC1 : Hid (RC w0 w2 g (numS s) bb (kindC 7)) := HC
 clear HC
 have HC := HC1
 clear HC1
 have y0 := HC.out.at0
 have HSZ : Hid ((kindC 7).size = 22) := Lib.hid (kindC_size _)
 generalize hcs : kindC 7 = cs0 at HC HSZ
 have HCS : Hid (kindC 7 = cs0) := Lib.hid hcs
 clear hcs HR HN HS0
 go_wp2_with (go_at_call 73; refine (HC.out.num).mono ?_; rintro e w3 ⟨rfl, hs⟩; have HR1 := Lib.hid hs; clear hs; clear y0; refine Stop.out ?_)
 unfold Stop
 clear HC
 go_wp2_with (go_at_call 75; refine (code_year _ _).mono ?_; rintro e w4 ⟨rfl, hb⟩; have HR2 := Lib.hid (HR1.out.on hb); clear hb; refine Stop.out ?_)
 unfold Stop
 clear HR1
 go_wp2_with (go_at_call 73; refine (HR2.out.num).mono ?_; rintro e w5 ⟨rfl, hs⟩; have HR3 := Lib.hid hs; clear hs; refine Stop.out ?_)
 unfold Stop
 clear HR2
 go_wp2_with ((with_reducible refine wpList_store_part (o := ⟨none, _, _, _, _, _⟩) ?a0 23 (.tmp 95) (.tmp 92) ?a1 bb 10 ?a2 (.agg #[.int .i64 3, .int .i64 (numV (numS s)), .int .i64 1]) [.int .i64 3, .int .i64 (numV (numS s)), .int .i64 1] 3 ?a3 ?a4 ?a5 ?a6 ?a7 cs0 28 HR3.out.box ?a8 ?_); (case a0 => rfl); (case a1 => rfl); (case a2 => rfl); (case a3 => kernel_rfl); (case a4 => rfl); (case a5 => rfl); (case a6 => intro u hu; simp only [List.mem_cons, List.not_mem_nil, or_false] at hu; rcases hu with rfl | rfl | rfl <;> rfl); (case a7 => rfl); (case a8 => have := HSZ.out; simp; omega); refine Stop.out ?_)
 unfold Stop
 have HR4 := Lib.hid (HR3.out.put (putAt cs0 10 [.int .i64 3, .int .i64 (numV (numS s)), .int .i64 1]))
 have HSZn : Hid ((putAt cs0 10 [.int .i64 3, .int .i64 (numV (numS s)), .int .i64 1]).size = 22) := Lib.hid ((putAt_size (by have := HSZ.out; simp; omega)).trans HSZ.out)
 clear HSZ
 have HSZ := HSZn
 clear HSZn
 generalize World.setRow _ _ _ = w6 at HR4 ⊢
 generalize hcs : putAt cs0 10 [.int .i64 3, .int .i64 (numV (numS s)), .int .i64 1] = cs4 at HR4 HSZ
 have HCS4 : Hid (putAt cs0 10 [.int .i64 3, .int .i64 (numV (numS s)), .int .i64 1] = cs4) := Lib.hid hcs
 clear hcs HR3
 go_wp2_with ((with_reducible refine wpList_store_part (o := ⟨none, _, _, _, _, _⟩) ?a0 3 (.tmp 96) (.tmp 94) ?a1 bb 7 ?a2 (.int .i64 (numV (numS (numS s)))) [.int .i64 (numV (numS (numS s)))] 1 ?a3 ?a4 ?a5 ?a6 ?a7 cs4 28 HR4.out.box ?a8 ?_); (case a0 => rfl); (case a1 => rfl); (case a2 => rfl); (case a3 => kernel_rfl); (case a4 => rfl); (case a5 => rfl); (case a6 => intro u hu; rw [List.mem_singleton] at hu; subst hu; rfl); (case a7 => rfl); (case a8 => have := HSZ.out; simp; omega); refine Stop.out ?_)
 unfold Stop
 have HR5 := Lib.hid (HR4.out.put (putAt cs4 7 [.int .i64 (numV (numS (numS s)))]))
 have HSZn : Hid ((putAt cs4 7 [.int .i64 (numV (numS (numS s)))]).size = 22) := Lib.hid ((putAt_size (by have := HSZ.out; simp; omega)).trans HSZ.out)
 clear HSZ
 have HSZ := HSZn
 clear HSZn
 generalize World.setRow _ _ _ = w7 at HR5 ⊢
 generalize hcs : putAt cs4 7 [.int .i64 (numV (numS (numS s)))] = cs5 at HR5 HSZ
 have HCS5 : Hid (putAt cs4 7 [.int .i64 (numV (numS (numS s)))] = cs5) := Lib.hid hcs
 clear hcs HR4
 have HONE : Hid (cs5.all (·.oneCell') = true) := Lib.hid (by rw [← HCS5.out, ← HCS4.out, ← HCS.out]; simp [putAt, kindC, Value.oneCell'])
 have HI := Lib.hid (cmd_info HSZ.out)
 have HX := Lib.hid HR5.out.box
 have HZ9 := Lib.hid ((HR5.out.below w.heap.size HG.out.2 (Nat.ne_of_gt HG.out.1)).trans HZ.out)
 go_wp2_with ((with_reducible refine wpList_load_row (o := ⟨some 112, _, _, _, _, _⟩) ?a1 28 (.tmp 5) ?a2 bb ?a3 28 cs5 (0, 0) _ HX.out Tryz.underlying28 ?a4 HI.out ?_); (case a1 => rfl); (case a2 => rfl); (case a3 => rfl); (case a4 => rfl); refine Stop.out ?_)
 unfold Stop
 go_wp2_with ((with_reducible refine wpList_store_row (o := ⟨none, _, _, _, _, _⟩) ?b1 28 (.tmp 2) (.tmp 112) ?b2 w.heap.size cs5 ?b3 ?b4 28 zeroCmd HZ9.out HI.out ?b5 ?b6 ?_); (case b1 => rfl); (case b2 => rfl); (case b3 => rfl); (case b4 => rfl); (case b5 => exact HSZ.out.symm); (case b6 => exact HONE.out); refine Stop.out ?_)
 unfold Stop
 have HP9 := Lib.hid (setRow_heap _ w.heap.size _ cs5 _ _ HZ9.out)
 go_wp2
 exact bodyPost_ret (v := .agg cs5) (results_cell_row Tryz.results45 _ _ w.heap.size 28 cs5 (0, 0) _ rfl HP9.out Tryz.underlying28 rfl HI.out) rfl ⟨cs5, rfl, by unfold putAll; rw [← HCS5.out, ← HCS4.out, ← HCS.out]; rfl, (HP.out _ _ HR5.out.rs).far (only_setRow _ _ _) (Nat.le_refl _)⟩
end Go.Proofs.YtplghpamckdklaaGreat

namespace Go.Proofs.YtplghpamckdklaaGreat
open Go.RowKit Go.ChangeShapes
set_option maxRecDepth 100000
set_option linter.unusedSimpArgs false
set_option linter.unusedVariables false

set_option maxHeartbeats 4000000 in
theorem read_9 (g : Nat) (s : Bool × Text) (w : World) (hr : Rdr w g s.1 s.2) (hk : numV s = 9) : Calls Tryz.prog 45 #[.pointer (some ⟨g, 0, none⟩)] w fun e w1 => ∃ cs, e = .returned (.agg cs) ∧ cs = putAll (kindC 9) [(10, [.int .i64 (numV (numS s)), .int .i64 (numV (numS (numS s))), .int .i64 (numV (numS (numS (numS s))))])] ∧ RS w w1 g (numS (numS (numS (numS s)))) := by
 have HS0 := Lib.hid (RS.start (hr.on (below_alloc w (.cells zeroCmd 28))))
 have HZ0 := Lib.hid (heap_alloc_new w (.cells zeroCmd 28))
 have hgw : g < w.heap.size := heapLt hr.choose_spec.choose_spec.1
 have HP : Hid (∀ w1 s1, RS (w.alloc (.cells zeroCmd 28)) w1 g s1 → RS w w1 g s1) := Lib.hid (fun w1 s1 h => ⟨h.1, (Only.of_below (below_alloc w (.cells zeroCmd 28))).trans h.2.1, hgw⟩)
 have HG : Hid (g < w.heap.size ∧ w.heap.size < (w.alloc (.cells zeroCmd 28)).heap.size) := Lib.hid ⟨hgw, by simp⟩
 have HK := Lib.hid hk
 have hmf : ∀ (fn : Fn) (first cap : Array Value) (w : World), (Instr.makeFunc fn first cap).run Tryz.prog w = .ok (.func fn first cap) w := fun _ _ _ _ => rfl
 clear hr hgw hk
 go_enter Tryz.func45, Tryz.ntmps45
 go_upto_region 2 with fail
 generalize World.alloc w _ = w0 at HS0 HZ0 HP HG ⊢
 have HZ : Hid (w0.heap[w.heap.size]? = some (.cells zeroCmd 28 (0, 0))) := HZ0
 clear HZ0
 have HN : Hid (Calls Tryz.prog 73 #[.pointer (some ⟨g, 0, none⟩)] w0 fun e w1 => e = .returned (.int .i64 9) ∧ RS w0 w1 g (numS s)) := Lib.hid (HS0.out.num.mono fun e w1 h => ⟨by rw [← HK.out]; exact h.1, h.2.1⟩)
 go_wp2_with (go_at_call 73; refine HN.out.mono ?_; rintro e w1 ⟨rfl, hs⟩; have HR := Lib.hid hs; clear hs; refine Stop.out ?_)
 unfold Stop
 have HA := Lib.hid (heap_alloc_new w1 (.cells zeroCmd 28))
 have HC := Lib.hid ((RC.start (cs := zeroCmd) HR.out).put #[.int .i64 9, .string ⟨#[]⟩, .string ⟨#[]⟩, .int .i64 0, .int .i64 0, .int .i64 0, .int .i64 0, .int .i64 0, .int .i64 0, .int .i64 0, .int .i64 0, .int .i64 0, .int .i64 0, .string ⟨#[]⟩, .bool false, .bool false, .string ⟨#[]⟩, .int .i64 0, .string ⟨#[]⟩, .string ⟨#[]⟩, .string ⟨#[]⟩, .slice none 0 0])
 have HO1 : Hid ((#[.int .i64 9, .string ⟨#[]⟩, .string ⟨#[]⟩, .int .i64 0, .int .i64 0, .int .i64 0, .int .i64 0, .int .i64 0, .int .i64 0, .int .i64 0, .int .i64 0, .int .i64 0, .int .i64 0, .string ⟨#[]⟩, .bool false, .bool false, .string ⟨#[]⟩, .int .i64 0, .string ⟨#[]⟩, .string ⟨#[]⟩, .string ⟨#[]⟩, .slice none 0 0] : Array Value).all (·.oneCell') = true) := Lib.hid (by simp [Value.oneCell'])
 go_wp2_with ((with_reducible refine wpList_store_row (o := ⟨none, _, _, _, _, _⟩) ?b1 28 (.tmp 5) (.tmp 12) ?b2 w1.heap.size #[.int .i64 9, .string ⟨#[]⟩, .string ⟨#[]⟩, .int .i64 0, .int .i64 0, .int .i64 0, .int .i64 0, .int .i64 0, .int .i64 0, .int .i64 0, .int .i64 0, .int .i64 0, .int .i64 0, .string ⟨#[]⟩, .bool false, .bool false, .string ⟨#[]⟩, .int .i64 0, .string ⟨#[]⟩, .string ⟨#[]⟩, .string ⟨#[]⟩, .slice none 0 0] ?b3 ?b4 28 zeroCmd HA.out ?b5 ?b6 ?b7 ?_); (case b1 => rfl); (case b2 => rfl); (case b3 => rfl); (case b4 => rfl); (case b5 => exact cells_info'); (case b6 => rfl); (case b7 => exact HO1.out); refine Stop.out ?_)
 unfold Stop
 generalize World.setRow _ _ _ = w2 at HC ⊢
 generalize w1.heap.size = bb at HC ⊢
 generalize Value.agg #[.int .i64 9, .string ⟨#[]⟩, .string ⟨#[]⟩, .int .i64 0, .int .i64 0, .int .i64 0, .int .i64 0, .int .i64 0, .int .i64 0, .int .i64 0, .int .i64 0, .int .i64 0, .int .i64 0, .string ⟨#[]⟩, .bool false, .bool false, .string ⟨#[]⟩, .int .i64 0, .string ⟨#[]⟩, .string ⟨#[]⟩, .string ⟨#[]⟩, .slice none 0 0] = vk
 clear HA HO1
 have HC1 : Hid (RC w0 w2 g (numS s) bb (kindC 9)) := HC
 clear HC
 have HC := HC1
 clear HC1
 have y0 := HC.out.at0
 have HSZ : Hid ((kindC 9).size = 22) := Lib.hid (kindC_size _)
 generalize hcs : kindC 9 = cs0 at HC HSZ
 have HCS : Hid (kindC 9 = cs0) := Lib.hid hcs
 clear hcs HR HN HS0
 go_wp2_with (go_at_call 73; refine (HC.out.num).mono ?_; rintro e w3 ⟨rfl, hs⟩; have HR1 := Lib.hid hs; clear hs; clear y0; refine Stop.out ?_)
 unfold Stop
 clear HC
 go_wp2_with (go_at_call 73; refine (HR1.out.num).mono ?_; rintro e w4 ⟨rfl, hs⟩; have HR2 := Lib.hid hs; clear hs; refine Stop.out ?_)
 unfold Stop
 clear HR1
 go_wp2_with (go_at_call 73; refine (HR2.out.num).mono ?_; rintro e w5 ⟨rfl, hs⟩; have HR3 := Lib.hid hs; clear hs; refine Stop.out ?_)
 unfold Stop
 clear HR2
 go_wp2_with ((with_reducible refine wpList_store_part (o := ⟨none, _, _, _, _, _⟩) ?a0 23 (.tmp 107) (.tmp 106) ?a1 bb 10 ?a2 (.agg #[.int .i64 (numV (numS s)), .int .i64 (numV (numS (numS s))), .int .i64 (numV (numS (numS (numS s))))]) [.int .i64 (numV (numS s)), .int .i64 (numV (numS (numS s))), .int .i64 (numV (numS (numS (numS s))))] 3 ?a3 ?a4 ?a5 ?a6 ?a7 cs0 28 HR3.out.box ?a8 ?_); (case a0 => rfl); (case a1 => rfl); (case a2 => rfl); (case a3 => kernel_rfl); (case a4 => rfl); (case a5 => rfl); (case a6 => intro u hu; simp only [List.mem_cons, List.not_mem_nil, or_false] at hu; rcases hu with rfl | rfl | rfl <;> rfl); (case a7 => rfl); (case a8 => have := HSZ.out; simp; omega); refine Stop.out ?_)
 unfold Stop
 have HR4 := Lib.hid (HR3.out.put (putAt cs0 10 [.int .i64 (numV (numS s)), .int .i64 (numV (numS (numS s))), .int .i64 (numV (numS (numS (numS s))))]))
 have HSZn : Hid ((putAt cs0 10 [.int .i64 (numV (numS s)), .int .i64 (numV (numS (numS s))), .int .i64 (numV (numS (numS (numS s))))]).size = 22) := Lib.hid ((putAt_size (by have := HSZ.out; simp; omega)).trans HSZ.out)
 clear HSZ
 have HSZ := HSZn
 clear HSZn
 generalize World.setRow _ _ _ = w6 at HR4 ⊢
 generalize hcs : putAt cs0 10 [.int .i64 (numV (numS s)), .int .i64 (numV (numS (numS s))), .int .i64 (numV (numS (numS (numS s))))] = cs4 at HR4 HSZ
 have HCS4 : Hid (putAt cs0 10 [.int .i64 (numV (numS s)), .int .i64 (numV (numS (numS s))), .int .i64 (numV (numS (numS (numS s))))] = cs4) := Lib.hid hcs
 clear hcs HR3
 have HONE : Hid (cs4.all (·.oneCell') = true) := Lib.hid (by rw [← HCS4.out, ← HCS.out]; simp [putAt, kindC, Value.oneCell'])
 have HI := Lib.hid (cmd_info HSZ.out)
 have HX := Lib.hid HR4.out.box
 have HZ9 := Lib.hid ((HR4.out.below w.heap.size HG.out.2 (Nat.ne_of_gt HG.out.1)).trans HZ.out)
 go_wp2_with ((with_reducible refine wpList_load_row (o := ⟨some 112, _, _, _, _, _⟩) ?a1 28 (.tmp 5) ?a2 bb ?a3 28 cs4 (0, 0) _ HX.out Tryz.underlying28 ?a4 HI.out ?_); (case a1 => rfl); (case a2 => rfl); (case a3 => rfl); (case a4 => rfl); refine Stop.out ?_)
 unfold Stop
 go_wp2_with ((with_reducible refine wpList_store_row (o := ⟨none, _, _, _, _, _⟩) ?b1 28 (.tmp 2) (.tmp 112) ?b2 w.heap.size cs4 ?b3 ?b4 28 zeroCmd HZ9.out HI.out ?b5 ?b6 ?_); (case b1 => rfl); (case b2 => rfl); (case b3 => rfl); (case b4 => rfl); (case b5 => exact HSZ.out.symm); (case b6 => exact HONE.out); refine Stop.out ?_)
 unfold Stop
 have HP9 := Lib.hid (setRow_heap _ w.heap.size _ cs4 _ _ HZ9.out)
 go_wp2
 exact bodyPost_ret (v := .agg cs4) (results_cell_row Tryz.results45 _ _ w.heap.size 28 cs4 (0, 0) _ rfl HP9.out Tryz.underlying28 rfl HI.out) rfl ⟨cs4, rfl, by unfold putAll; rw [← HCS4.out, ← HCS.out]; rfl, (HP.out _ _ HR4.out.rs).far (only_setRow _ _ _) (Nat.le_refl _)⟩
set_option maxHeartbeats 4000000 in
theorem read_10 (g : Nat) (s : Bool × Text) (w : World) (hr : Rdr w g s.1 s.2) (hk : numV s = 10) : Calls Tryz.prog 45 #[.pointer (some ⟨g, 0, none⟩)] w fun e w1 => ∃ cs, e = .returned (.agg cs) ∧ cs = putAll (kindC 10) [(10, [.int .i64 (numV (numS s)), .int .i64 (numV (numS (numS s))), .int .i64 (numV (numS (numS (numS s))))])] ∧ RS w w1 g (numS (numS (numS (numS s)))) := by
 have HS0 := Lib.hid (RS.start (hr.on (below_alloc w (.cells zeroCmd 28))))
 have HZ0 := Lib.hid (heap_alloc_new w (.cells zeroCmd 28))
 have hgw : g < w.heap.size := heapLt hr.choose_spec.choose_spec.1
 have HP : Hid (∀ w1 s1, RS (w.alloc (.cells zeroCmd 28)) w1 g s1 → RS w w1 g s1) := Lib.hid (fun w1 s1 h => ⟨h.1, (Only.of_below (below_alloc w (.cells zeroCmd 28))).trans h.2.1, hgw⟩)
 have HG : Hid (g < w.heap.size ∧ w.heap.size < (w.alloc (.cells zeroCmd 28)).heap.size) := Lib.hid ⟨hgw, by simp⟩
 have HK := Lib.hid hk
 have hmf : ∀ (fn : Fn) (first cap : Array Value) (w : World), (Instr.makeFunc fn first cap).run Tryz.prog w = .ok (.func fn first cap) w := fun _ _ _ _ => rfl
 clear hr hgw hk
 go_enter Tryz.func45, Tryz.ntmps45
 go_upto_region 2 with fail
 generalize World.alloc w _ = w0 at HS0 HZ0 HP HG ⊢
 have HZ : Hid (w0.heap[w.heap.size]? = some (.cells zeroCmd 28 (0, 0))) := HZ0
 clear HZ0
 have HN : Hid (Calls Tryz.prog 73 #[.pointer (some ⟨g, 0, none⟩)] w0 fun e w1 => e = .returned (.int .i64 10) ∧ RS w0 w1 g (numS s)) := Lib.hid (HS0.out.num.mono fun e w1 h => ⟨by rw [← HK.out]; exact h.1, h.2.1⟩)
 go_wp2_with (go_at_call 73; refine HN.out.mono ?_; rintro e w1 ⟨rfl, hs⟩; have HR := Lib.hid hs; clear hs; refine Stop.out ?_)
 unfold Stop
 have HA := Lib.hid (heap_alloc_new w1 (.cells zeroCmd 28))
 have HC := Lib.hid ((RC.start (cs := zeroCmd) HR.out).put #[.int .i64 10, .string ⟨#[]⟩, .string ⟨#[]⟩, .int .i64 0, .int .i64 0, .int .i64 0, .int .i64 0, .int .i64 0, .int .i64 0, .int .i64 0, .int .i64 0, .int .i64 0, .int .i64 0, .string ⟨#[]⟩, .bool false, .bool false, .string ⟨#[]⟩, .int .i64 0, .string ⟨#[]⟩, .string ⟨#[]⟩, .string ⟨#[]⟩, .slice none 0 0])
 have HO1 : Hid ((#[.int .i64 10, .string ⟨#[]⟩, .string ⟨#[]⟩, .int .i64 0, .int .i64 0, .int .i64 0, .int .i64 0, .int .i64 0, .int .i64 0, .int .i64 0, .int .i64 0, .int .i64 0, .int .i64 0, .string ⟨#[]⟩, .bool false, .bool false, .string ⟨#[]⟩, .int .i64 0, .string ⟨#[]⟩, .string ⟨#[]⟩, .string ⟨#[]⟩, .slice none 0 0] : Array Value).all (·.oneCell') = true) := Lib.hid (by simp [Value.oneCell'])
 go_wp2_with ((with_reducible refine wpList_store_row (o := ⟨none, _, _, _, _, _⟩) ?b1 28 (.tmp 5) (.tmp 12) ?b2 w1.heap.size #[.int .i64 10, .string ⟨#[]⟩, .string ⟨#[]⟩, .int .i64 0, .int .i64 0, .int .i64 0, .int .i64 0, .int .i64 0, .int .i64 0, .int .i64 0, .int .i64 0, .int .i64 0, .int .i64 0, .string ⟨#[]⟩, .bool false, .bool false, .string ⟨#[]⟩, .int .i64 0, .string ⟨#[]⟩, .string ⟨#[]⟩, .string ⟨#[]⟩, .slice none 0 0] ?b3 ?b4 28 zeroCmd HA.out ?b5 ?b6 ?b7 ?_); (case b1 => rfl); (case b2 => rfl); (case b3 => rfl); (case b4 => rfl); (case b5 => exact cells_info'); (case b6 => rfl); (case b7 => exact HO1.out); refine Stop.out ?_)
 unfold Stop
 generalize World.setRow _ _ _ = w2 at HC ⊢
 generalize w1.heap.size = bb at HC ⊢
 generalize Value.agg #[.int .i64 10, .string ⟨#[]⟩, .string ⟨#[]⟩, .int .i64 0, .int .i64 0, .int .i64 0, .int .i64 0, .int .i64 0, .int .i64 0, .int .i64 0, .int .i64 0, .int .i64 0, .int .i64 0, .string ⟨#[]⟩, .bool false, .bool false, .string ⟨#[]⟩, .int .i64 0, .string ⟨#[]⟩, .string ⟨#[]⟩, .string ⟨#[]⟩, .slice none 0 0] = vk
 clear HA HO1
 have HC1 : Hid (RC w0 w2 g (numS s) bb (kindC 10)) := HC
 clear HC
 have HC := HC1
 clear HC1
 have y0 := HC.out.at0
 have HSZ : Hid ((kindC 10).size = 22) := Lib.hid (kindC_size _)
 generalize hcs : kindC 10 = cs0 at HC HSZ
 have HCS : Hid (kindC 10 = cs0) := Lib.hid hcs
 clear hcs HR HN HS0
 go_wp2_with (go_at_call 73; refine (HC.out.num).mono ?_; rintro e w3 ⟨rfl, hs⟩; have HR1 := Lib.hid hs; clear hs; clear y0; refine Stop.out ?_)
 unfold Stop
 clear HC
 go_wp2_with (go_at_call 73; refine (HR1.out.num).mono ?_; rintro e w4 ⟨rfl, hs⟩; have HR2 := Lib.hid hs; clear hs; refine Stop.out ?_)
 unfold Stop
 clear HR1
 go_wp2_with (go_at_call 73; refine (HR2.out.num).mono ?_; rintro e w5 ⟨rfl, hs⟩; have HR3 := Lib.hid hs; clear hs; refine Stop.out ?_)
 unfold Stop
 clear HR2
 go_wp2_with ((with_reducible refine wpList_store_part (o := ⟨none, _, _, _, _, _⟩) ?a0 23 (.tmp 107) (.tmp 106) ?a1 bb 10 ?a2 (.agg #[.int .i64 (numV (numS s)), .int .i64 (numV (numS (numS s))), .int .i64 (numV (numS (numS (numS s))))]) [.int .i64 (numV (numS s)), .int .i64 (numV (numS (numS s))), .int .i64 (numV (numS (numS (numS s))))] 3 ?a3 ?a4 ?a5 ?a6 ?a7 cs0 28 HR3.out.box ?a8 ?_); (case a0 => rfl); (case a1 => rfl); (case a2 => rfl); (case a3 => kernel_rfl); (case a4 => rfl); (case a5 => rfl); (case a6 => intro u hu; simp only [List.mem_cons, List.not_mem_nil, or_false] at hu; rcases hu with rfl | rfl | rfl <;> rfl); (case a7 => rfl); (case a8 => have := HSZ.out; simp; omega); refine Stop.out ?_)
 unfold Stop
 have HR4 := Lib.hid (HR3.out.put (putAt cs0 10 [.int .i64 (numV (numS s)), .int .i64 (numV (numS (numS s))), .int .i64 (numV (numS (numS (numS s))))]))
 have HSZn : Hid ((putAt cs0 10 [.int .i64 (numV (numS s)), .int .i64 (numV (numS (numS s))), .int .i64 (numV (numS (numS (numS s))))]).size = 22) := Lib.hid ((putAt_size (by have := HSZ.out; simp; omega)).trans HSZ.out)
 clear HSZ
 have HSZ := HSZn
 clear HSZn
 generalize World.setRow _ _ _ = w6 at HR4 ⊢
 generalize hcs : putAt cs0 10 [.int .i64 (numV (numS s)), .int .i64 (numV (numS (numS s))), .int .i64 (numV (numS (numS (numS s))))] = cs4 at HR4 HSZ
 have HCS4 : Hid (putAt cs0 10 [.int .i64 (numV (numS s)), .int .i64 (numV (numS (numS s))), .int .i64 (numV (numS (numS (numS s))))] = cs4) := Lib.hid hcs
 clear hcs HR3
 have HONE : Hid (cs4.all (·.oneCell') = true) := Lib.hid (by rw [← HCS4.out, ← HCS.out]; simp [putAt, kindC, Value.oneCell'])
 have HI := Lib.hid (cmd_info HSZ.out)
 have HX := Lib.hid HR4.out.box
 have HZ9 := Lib.hid ((HR4.out.below w.heap.size HG.out.2 (Nat.ne_of_gt HG.out.1)).trans HZ.out)
 go_wp2_with ((with_reducible refine wpList_load_row (o := ⟨some 112, _, _, _, _, _⟩) ?a1 28 (.tmp 5) ?a2 bb ?a3 28 cs4 (0, 0) _ HX.out Tryz.underlying28 ?a4 HI.out ?_); (case a1 => rfl); (case a2 => rfl); (case a3 => rfl); (case a4 => rfl); refine Stop.out ?_)
 unfold Stop
 go_wp2_with ((with_reducible refine wpList_store_row (o := ⟨none, _, _, _, _, _⟩) ?b1 28 (.tmp 2) (.tmp 112) ?b2 w.heap.size cs4 ?b3 ?b4 28 zeroCmd HZ9.out HI.out ?b5 ?b6 ?_); (case b1 => rfl); (case b2 => rfl); (case b3 => rfl); (case b4 => rfl); (case b5 => exact HSZ.out.symm); (case b6 => exact HONE.out); refine Stop.out ?_)
 unfold Stop
 have HP9 := Lib.hid (setRow_heap _ w.heap.size _ cs4 _ _ HZ9.out)
 go_wp2
 exact bodyPost_ret (v := .agg cs4) (results_cell_row Tryz.results45 _ _ w.heap.size 28 cs4 (0, 0) _ rfl HP9.out Tryz.underlying28 rfl HI.out) rfl ⟨cs4, rfl, by unfold putAll; rw [← HCS4.out, ← HCS.out]; rfl, (HP.out _ _ HR4.out.rs).far (only_setRow _ _ _) (Nat.le_refl _)⟩
set_option maxHeartbeats 4000000 in
theorem read_11 (g : Nat) (s : Bool × Text) (w : World) (hr : Rdr w g s.1 s.2) (hk : numV s = 11) : Calls Tryz.prog 45 #[.pointer (some ⟨g, 0, none⟩)] w fun e w1 => ∃ cs, e = .returned (.agg cs) ∧ cs = putAll (kindC 11) [(10, [.int .i64 3, .int .i64 (numV (numS s)), .int .i64 1])] ∧ RS w w1 g (numS (numS s)) := by
 have HS0 := Lib.hid (RS.start (hr.on (below_alloc w (.cells zeroCmd 28))))
 have HZ0 := Lib.hid (heap_alloc_new w (.cells zeroCmd 28))
 have hgw : g < w.heap.size := heapLt hr.choose_spec.choose_spec.1
 have HP : Hid (∀ w1 s1, RS (w.alloc (.cells zeroCmd 28)) w1 g s1 → RS w w1 g s1) := Lib.hid (fun w1 s1 h => ⟨h.1, (Only.of_below (below_alloc w (.cells zeroCmd 28))).trans h.2.1, hgw⟩)
 have HG : Hid (g < w.heap.size ∧ w.heap.size < (w.alloc (.cells zeroCmd 28)).heap.size) := Lib.hid ⟨hgw, by simp⟩
 have HK := Lib.hid hk
 have hmf : ∀ (fn : Fn) (first cap : Array Value) (w : World), (Instr.makeFunc fn first cap).run Tryz.prog w = .ok (.func fn first cap) w := fun _ _ _ _ => rfl
 clear hr hgw hk
 go_enter Tryz.func45, Tryz.ntmps45
 go_upto_region 2 with fail
 generalize World.alloc w _ = w0 at HS0 HZ0 HP HG ⊢
 have HZ : Hid (w0.heap[w.heap.size]? = some (.cells zeroCmd 28 (0, 0))) := HZ0
 clear HZ0
 have HN : Hid (Calls Tryz.prog 73 #[.pointer (some ⟨g, 0, none⟩)] w0 fun e w1 => e = .returned (.int .i64 11) ∧ RS w0 w1 g (numS s)) := Lib.hid (HS0.out.num.mono fun e w1 h => ⟨by rw [← HK.out]; exact h.1, h.2.1⟩)
 go_wp2_with (go_at_call 73; refine HN.out.mono ?_; rintro e w1 ⟨rfl, hs⟩; have HR := Lib.hid hs; clear hs; refine Stop.out ?_)
 unfold Stop
 have HA := Lib.hid (heap_alloc_new w1 (.cells zeroCmd 28))
 have HC := Lib.hid ((RC.start (cs := zeroCmd) HR.out).put #[.int .i64 11, .string ⟨#[]⟩, .string ⟨#[]⟩, .int .i64 0, .int .i64 0, .int .i64 0, .int .i64 0, .int .i64 0, .int .i64 0, .int .i64 0, .int .i64 0, .int .i64 0, .int .i64 0, .string ⟨#[]⟩, .bool false, .bool false, .string ⟨#[]⟩, .int .i64 0, .string ⟨#[]⟩, .string ⟨#[]⟩, .string ⟨#[]⟩, .slice none 0 0])
 have HO1 : Hid ((#[.int .i64 11, .string ⟨#[]⟩, .string ⟨#[]⟩, .int .i64 0, .int .i64 0, .int .i64 0, .int .i64 0, .int .i64 0, .int .i64 0, .int .i64 0, .int .i64 0, .int .i64 0, .int .i64 0, .string ⟨#[]⟩, .bool false, .bool false, .string ⟨#[]⟩, .int .i64 0, .string ⟨#[]⟩, .string ⟨#[]⟩, .string ⟨#[]⟩, .slice none 0 0] : Array Value).all (·.oneCell') = true) := Lib.hid (by simp [Value.oneCell'])
 go_wp2_with ((with_reducible refine wpList_store_row (o := ⟨none, _, _, _, _, _⟩) ?b1 28 (.tmp 5) (.tmp 12) ?b2 w1.heap.size #[.int .i64 11, .string ⟨#[]⟩, .string ⟨#[]⟩, .int .i64 0, .int .i64 0, .int .i64 0, .int .i64 0, .int .i64 0, .int .i64 0, .int .i64 0, .int .i64 0, .int .i64 0, .int .i64 0, .string ⟨#[]⟩, .bool false, .bool false, .string ⟨#[]⟩, .int .i64 0, .string ⟨#[]⟩, .string ⟨#[]⟩, .string ⟨#[]⟩, .slice none 0 0] ?b3 ?b4 28 zeroCmd HA.out ?b5 ?b6 ?b7 ?_); (case b1 => rfl); (case b2 => rfl); (case b3 => rfl); (case b4 => rfl); (case b5 => exact cells_info'); (case b6 => rfl); (case b7 => exact HO1.out); refine Stop.out ?_)
 unfold Stop
 generalize World.setRow _ _ _ = w2 at HC ⊢
 generalize w1.heap.size = bb at HC ⊢
 generalize Value.agg #[.int .i64 11, .string ⟨#[]⟩, .string ⟨#[]⟩, .int .i64 0, .int .i64 0, .int .i64 0, .int .i64 0, .int .i64 0, .int .i64 0, .int .i64 0, .int .i64 0, .int .i64 0, .int .i64 0, .string ⟨#[]⟩, .bool false, .bool false, .string ⟨#[]⟩, .int .i64 0, .string ⟨#[]⟩, .string ⟨#[]⟩, .string ⟨#[]⟩, .slice none 0 0] = vk
 clear HA HO1
 have HC1 : Hid (RC w0 w2 g (numS s) bb (kindC 11)) := HC
 clear HC
 have HC := HC1
 clear HC1
 have y0 := HC.out.at0
 have HSZ : Hid ((kindC 11).size = 22) := Lib.hid (kindC_size _)
 generalize hcs : kindC 11 = cs0 at HC HSZ
 have HCS : Hid (kindC 11 = cs0) := Lib.hid hcs
 clear hcs HR HN HS0
 go_wp2_with (go_at_call 73; refine (HC.out.num).mono ?_; rintro e w3 ⟨rfl, hs⟩; have HR1 := Lib.hid hs; clear hs; clear y0; refine Stop.out ?_)
 unfold Stop
 clear HC
 go_wp2_with (go_at_call 75; refine (code_year _ _).mono ?_; rintro e w4 ⟨rfl, hb⟩; have HR2 := Lib.hid (HR1.out.on hb); clear hb; refine Stop.out ?_)
 unfold Stop
 clear HR1
 go_wp2_with ((with_reducible refine wpList_store_part (o := ⟨none, _, _, _, _, _⟩) ?a0 23 (.tmp 111) (.tmp 110) ?a1 bb 10 ?a2 (.agg #[.int .i64 3, .int .i64 (numV (numS s)), .int .i64 1]) [.int .i64 3, .int .i64 (numV (numS s)), .int .i64 1] 3 ?a3 ?a4 ?a5 ?a6 ?a7 cs0 28 HR2.out.box ?a8 ?_); (case a0 => rfl); (case a1 => rfl); (case a2 => rfl); (case a3 => kernel_rfl); (case a4 => rfl); (case a5 => rfl); (case a6 => intro u hu; simp only [List.mem_cons, List.not_mem_nil, or_false] at hu; rcases hu with rfl | rfl | rfl <;> rfl); (case a7 => rfl); (case a8 => have := HSZ.out; simp; omega); refine Stop.out ?_)
 unfold Stop
 have HR3 := Lib.hid (HR2.out.put (putAt cs0 10 [.int .i64 3, .int .i64 (numV (numS s)), .int .i64 1]))
 have HSZn : Hid ((putAt cs0 10 [.int .i64 3, .int .i64 (numV (numS s)), .int .i64 1]).size = 22) := Lib.hid ((putAt_size (by have := HSZ.out; simp; omega)).trans HSZ.out)
 clear HSZ
 have HSZ := HSZn
 clear HSZn
 generalize World.setRow _ _ _ = w5 at HR3 ⊢
 generalize hcs : putAt cs0 10 [.int .i64 3, .int .i64 (numV (numS s)), .int .i64 1] = cs3 at HR3 HSZ
 have HCS3 : Hid (putAt cs0 10 [.int .i64 3, .int .i64 (numV (numS s)), .int .i64 1] = cs3) := Lib.hid hcs
 clear hcs HR2
 have HONE : Hid (cs3.all (·.oneCell') = true) := Lib.hid (by rw [← HCS3.out, ← HCS.out]; simp [putAt, kindC, Value.oneCell'])
 have HI := Lib.hid (cmd_info HSZ.out)
 have HX := Lib.hid HR3.out.box
 have HZ9 := Lib.hid ((HR3.out.below w.heap.size HG.out.2 (Nat.ne_of_gt HG.out.1)).trans HZ.out)
 go_wp2_with ((with_reducible refine wpList_load_row (o := ⟨some 112, _, _, _, _, _⟩) ?a1 28 (.tmp 5) ?a2 bb ?a3 28 cs3 (0, 0) _ HX.out Tryz.underlying28 ?a4 HI.out ?_); (case a1 => rfl); (case a2 => rfl); (case a3 => rfl); (case a4 => rfl); refine Stop.out ?_)
 unfold Stop
 go_wp2_with ((with_reducible refine wpList_store_row (o := ⟨none, _, _, _, _, _⟩) ?b1 28 (.tmp 2) (.tmp 112) ?b2 w.heap.size cs3 ?b3 ?b4 28 zeroCmd HZ9.out HI.out ?b5 ?b6 ?_); (case b1 => rfl); (case b2 => rfl); (case b3 => rfl); (case b4 => rfl); (case b5 => exact HSZ.out.symm); (case b6 => exact HONE.out); refine Stop.out ?_)
 unfold Stop
 have HP9 := Lib.hid (setRow_heap _ w.heap.size _ cs3 _ _ HZ9.out)
 go_wp2
 exact bodyPost_ret (v := .agg cs3) (results_cell_row Tryz.results45 _ _ w.heap.size 28 cs3 (0, 0) _ rfl HP9.out Tryz.underlying28 rfl HI.out) rfl ⟨cs3, rfl, by unfold putAll; rw [← HCS3.out, ← HCS.out]; rfl, (HP.out _ _ HR3.out.rs).far (only_setRow _ _ _) (Nat.le_refl _)⟩
end Go.Proofs.YtplghpamckdklaaGreat
