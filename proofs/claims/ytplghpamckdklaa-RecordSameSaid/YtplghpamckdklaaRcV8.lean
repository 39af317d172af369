/- A command, read, by its kind (8). -/
import Derived.Test.YtplghpamckdklaaRcV
import Derived.Test.YtplghpamckdklaaRcU
import Derived.Deep.Cut
import Derived.Deep.DeepCutAuto
import Derived.Laws.CopyOwn
namespace Go.Proofs.Ytplghpamckdklaa
open Go.RowKit Go.ChangeShapes
set_option maxRecDepth 100000
set_option linter.unusedSimpArgs false
set_option linter.unusedVariables false

set_option maxHeartbeats 4000000 in
theorem read_8 (g : Nat) (s : Bool × Text) (w : World) (hr : Rdr w g s.1 s.2) (hk : numV s = 8) : Calls Try.prog 38 #[.pointer (some ⟨g, 0, none⟩)] w fun e w1 => ∃ A c, e = .returned (.agg (putAll (kindC 8) [(13, [.string ((docR (numS s)).1.1), .bool ((docR (numS s)).1.2.1), .bool ((docR (numS s)).1.2.2.1), .string ((docR (numS s)).1.2.2.2.1), .int .i64 ((docR (numS s)).1.2.2.2.2.1), .string ((docR (numS s)).1.2.2.2.2.2.1), .string ((docR (numS s)).1.2.2.2.2.2.2.1), .string ((docR (numS s)).1.2.2.2.2.2.2.2), .slice A (docR (numS s)).2.1.length c])])) ∧ OwnLineV w1 w.heap.size (.slice A (docR (numS s)).2.1.length c) (docR (numS s)).2.1 ∧ RS w w1 g (docR (numS s)).2.2 := by
  have HS0 := Lib.hid (RS.start (hr.on (below_alloc w (.cells #[.int .i64 0, .string ⟨#[]⟩, .string ⟨#[]⟩, .int .i64 0, .int .i64 0, .int .i64 0, .int .i64 0, .int .i64 0, .int .i64 0, .int .i64 0, .int .i64 0, .int .i64 0, .int .i64 0, .string ⟨#[]⟩, .bool false, .bool false, .string ⟨#[]⟩, .int .i64 0, .string ⟨#[]⟩, .string ⟨#[]⟩, .string ⟨#[]⟩, .slice none 0 0] 28))))
  have HZ0 := Lib.hid (heap_alloc_new w (.cells #[.int .i64 0, .string ⟨#[]⟩, .string ⟨#[]⟩, .int .i64 0, .int .i64 0, .int .i64 0, .int .i64 0, .int .i64 0, .int .i64 0, .int .i64 0, .int .i64 0, .int .i64 0, .int .i64 0, .string ⟨#[]⟩, .bool false, .bool false, .string ⟨#[]⟩, .int .i64 0, .string ⟨#[]⟩, .string ⟨#[]⟩, .string ⟨#[]⟩, .slice none 0 0] 28))
  have hgw : g < w.heap.size := heapLt hr.choose_spec.choose_spec.1
  have HP : Hid (∀ w1 s1, RS (w.alloc (.cells #[.int .i64 0, .string ⟨#[]⟩, .string ⟨#[]⟩, .int .i64 0, .int .i64 0, .int .i64 0, .int .i64 0, .int .i64 0, .int .i64 0, .int .i64 0, .int .i64 0, .int .i64 0, .int .i64 0, .string ⟨#[]⟩, .bool false, .bool false, .string ⟨#[]⟩, .int .i64 0, .string ⟨#[]⟩, .string ⟨#[]⟩, .string ⟨#[]⟩, .slice none 0 0] 28)) w1 g s1 → RS w w1 g s1) := Lib.hid (fun w1 s1 h => ⟨h.1, (Only.of_below (below_alloc w (.cells #[.int .i64 0, .string ⟨#[]⟩, .string ⟨#[]⟩, .int .i64 0, .int .i64 0, .int .i64 0, .int .i64 0, .int .i64 0, .int .i64 0, .int .i64 0, .int .i64 0, .int .i64 0, .int .i64 0, .string ⟨#[]⟩, .bool false, .bool false, .string ⟨#[]⟩, .int .i64 0, .string ⟨#[]⟩, .string ⟨#[]⟩, .string ⟨#[]⟩, .slice none 0 0] 28))).trans h.2.1, hgw⟩)
  have HG : Hid (g < w.heap.size ∧ w.heap.size < (w.alloc (.cells #[.int .i64 0, .string ⟨#[]⟩, .string ⟨#[]⟩, .int .i64 0, .int .i64 0, .int .i64 0, .int .i64 0, .int .i64 0, .int .i64 0, .int .i64 0, .int .i64 0, .int .i64 0, .int .i64 0, .string ⟨#[]⟩, .bool false, .bool false, .string ⟨#[]⟩, .int .i64 0, .string ⟨#[]⟩, .string ⟨#[]⟩, .string ⟨#[]⟩, .slice none 0 0] 28)).heap.size) := Lib.hid ⟨hgw, by simp⟩
  have HK := Lib.hid hk
  have hmf : ∀ (fn : Fn) (first cap : Array Value) (w : World), (Instr.makeFunc fn first cap).run Try.prog w = .ok (.func fn first cap) w := fun _ _ _ _ => rfl
  clear hr hgw hk
  go_enter Try.func38, Try.ntmps38
  go_upto_region 2 with fail
  generalize World.alloc w _ = w0 at HS0 HZ0 HP HG ⊢
  have HZ : Hid (w0.heap[w.heap.size]? = some (.cells zeroCmd 28 (0, 0))) := HZ0
  clear HZ0
  have HN : Hid (Calls Try.prog 54 #[.pointer (some ⟨g, 0, none⟩)] w0 fun e w1 => e = .returned (.int .i64 8) ∧ RS w0 w1 g (numS s)) := Lib.hid (HS0.out.num.mono fun e w1 h => ⟨by rw [← HK.out]; exact h.1, h.2.1⟩)
  go_wp2_with (go_at_call 54; refine HN.out.mono ?_; rintro e w1 ⟨rfl, hs⟩; have HR := Lib.hid hs; clear hs; refine Stop.out ?_)
  unfold Stop
  have HA := Lib.hid (heap_alloc_new w1 (.cells #[.int .i64 0, .string ⟨#[]⟩, .string ⟨#[]⟩, .int .i64 0, .int .i64 0, .int .i64 0, .int .i64 0, .int .i64 0, .int .i64 0, .int .i64 0, .int .i64 0, .int .i64 0, .int .i64 0, .string ⟨#[]⟩, .bool false, .bool false, .string ⟨#[]⟩, .int .i64 0, .string ⟨#[]⟩, .string ⟨#[]⟩, .string ⟨#[]⟩, .slice none 0 0] 28))
  have HC := Lib.hid ((RC.start (cs := #[.int .i64 0, .string ⟨#[]⟩, .string ⟨#[]⟩, .int .i64 0, .int .i64 0, .int .i64 0, .int .i64 0, .int .i64 0, .int .i64 0, .int .i64 0, .int .i64 0, .int .i64 0, .int .i64 0, .string ⟨#[]⟩, .bool false, .bool false, .string ⟨#[]⟩, .int .i64 0, .string ⟨#[]⟩, .string ⟨#[]⟩, .string ⟨#[]⟩, .slice none 0 0]) HR.out).put #[.int .i64 8, .string ⟨#[]⟩, .string ⟨#[]⟩, .int .i64 0, .int .i64 0, .int .i64 0, .int .i64 0, .int .i64 0, .int .i64 0, .int .i64 0, .int .i64 0, .int .i64 0, .int .i64 0, .string ⟨#[]⟩, .bool false, .bool false, .string ⟨#[]⟩, .int .i64 0, .string ⟨#[]⟩, .string ⟨#[]⟩, .string ⟨#[]⟩, .slice none 0 0])
  have HO1 : Hid ((#[.int .i64 8, .string ⟨#[]⟩, .string ⟨#[]⟩, .int .i64 0, .int .i64 0, .int .i64 0, .int .i64 0, .int .i64 0, .int .i64 0, .int .i64 0, .int .i64 0, .int .i64 0, .int .i64 0, .string ⟨#[]⟩, .bool false, .bool false, .string ⟨#[]⟩, .int .i64 0, .string ⟨#[]⟩, .string ⟨#[]⟩, .string ⟨#[]⟩, .slice none 0 0] : Array Value).all (·.oneCell') = true) := Lib.hid (by simp [Value.oneCell'])
  go_wp2_with ((with_reducible refine wpList_store_row (o := ⟨none, _, _, _, _, _⟩) ?b1 28 (.tmp 5) (.tmp 12) ?b2 w1.heap.size #[.int .i64 8, .string ⟨#[]⟩, .string ⟨#[]⟩, .int .i64 0, .int .i64 0, .int .i64 0, .int .i64 0, .int .i64 0, .int .i64 0, .int .i64 0, .int .i64 0, .int .i64 0, .int .i64 0, .string ⟨#[]⟩, .bool false, .bool false, .string ⟨#[]⟩, .int .i64 0, .string ⟨#[]⟩, .string ⟨#[]⟩, .string ⟨#[]⟩, .slice none 0 0] ?b3 ?b4 28 #[.int .i64 0, .string ⟨#[]⟩, .string ⟨#[]⟩, .int .i64 0, .int .i64 0, .int .i64 0, .int .i64 0, .int .i64 0, .int .i64 0, .int .i64 0, .int .i64 0, .int .i64 0, .int .i64 0, .string ⟨#[]⟩, .bool false, .bool false, .string ⟨#[]⟩, .int .i64 0, .string ⟨#[]⟩, .string ⟨#[]⟩, .string ⟨#[]⟩, .slice none 0 0] HA.out ?b5 ?b6 ?b7 ?_); (case b1 => rfl); (case b2 => rfl); (case b3 => rfl); (case b4 => rfl); (case b5 => exact cells_info'); (case b6 => rfl); (case b7 => exact HO1.out); refine Stop.out ?_)
  unfold Stop
  generalize World.setRow _ _ _ = w2 at HC ⊢
  generalize w1.heap.size = bb at HC ⊢
  generalize Value.agg #[.int .i64 8, .string ⟨#[]⟩, .string ⟨#[]⟩, .int .i64 0, .int .i64 0, .int .i64 0, .int .i64 0, .int .i64 0, .int .i64 0, .int .i64 0, .int .i64 0, .int .i64 0, .int .i64 0, .string ⟨#[]⟩, .bool false, .bool false, .string ⟨#[]⟩, .int .i64 0, .string ⟨#[]⟩, .string ⟨#[]⟩, .string ⟨#[]⟩, .slice none 0 0] = vk
  clear HA HO1
  have HC1 : Hid (RC w0 w2 g (numS s) bb (kindC 8)) := HC
  clear HC
  have HC := HC1
  clear HC1
  have y0 := HC.out.at0
  have HSZ : Hid ((kindC 8).size = 22) := Lib.hid (kindC_size _)
  generalize hcs : kindC 8 = cs0 at HC HSZ
  have HCS : Hid (kindC 8 = cs0) := Lib.hid hcs
  clear hcs HR HN HS0
  have HB2 : Hid (w0.heap.size ≤ w2.heap.size) := Lib.hid HC.out.rs.2.1.size
  have HDf := Lib.hid (read_doc g (numS s) w2 HC.out.rs.1)
  go_wp2_with (go_at_call 57; refine HDf.out.mono ?_; rintro e w3 ⟨A, c, rfl, how, hrs⟩; have HOW := Lib.hid how; have HR1 := Lib.hid (HC.out.read ⟨hrs.1, HC.out.rs.2.1.trans hrs.2.1, HC.out.rs.2.2⟩ hrs.2.1); clear how hrs; clear y0; refine Stop.out ?_)
  unfold Stop
  have HFar := Lib.hid (heapLt HC.out.box)
  clear HC HDf
  go_wp2_with ((with_reducible refine wpList_store_part (o := ⟨none, _, _, _, _, _⟩) ?a0 26 (.tmp 99) (.tmp 98) ?a1 bb 13 ?a2 (.agg (docC (docR (numS s)).1 (.slice A (docR (numS s)).2.1.length c))) [.string ((docR (numS s)).1.1), .bool ((docR (numS s)).1.2.1), .bool ((docR (numS s)).1.2.2.1), .string ((docR (numS s)).1.2.2.2.1), .int .i64 ((docR (numS s)).1.2.2.2.2.1), .string ((docR (numS s)).1.2.2.2.2.2.1), .string ((docR (numS s)).1.2.2.2.2.2.2.1), .string ((docR (numS s)).1.2.2.2.2.2.2.2), .slice A (docR (numS s)).2.1.length c] 9 ?a3 ?a4 ?a5 ?a6 ?a7 cs0 28 HR1.out.box ?a8 ?_); (case a0 => rfl); (case a1 => rfl); (case a2 => rfl); (case a3 => kernel_rfl); (case a4 => rfl); (case a5 => rfl); (case a6 => intro u hu; simp only [List.mem_cons, List.not_mem_nil, or_false] at hu; rcases hu with rfl | rfl | rfl | rfl | rfl | rfl | rfl | rfl | rfl <;> rfl); (case a7 => rfl); (case a8 => have := HSZ.out; simp; omega); refine Stop.out ?_)
  unfold Stop
  have HR2 := Lib.hid (HR1.out.put (putAt cs0 13 [.string ((docR (numS s)).1.1), .bool ((docR (numS s)).1.2.1), .bool ((docR (numS s)).1.2.2.1), .string ((docR (numS s)).1.2.2.2.1), .int .i64 ((docR (numS s)).1.2.2.2.2.1), .string ((docR (numS s)).1.2.2.2.2.2.1), .string ((docR (numS s)).1.2.2.2.2.2.2.1), .string ((docR (numS s)).1.2.2.2.2.2.2.2), .slice A (docR (numS s)).2.1.length c]))
  have HSZn : Hid ((putAt cs0 13 [.string ((docR (numS s)).1.1), .bool ((docR (numS s)).1.2.1), .bool ((docR (numS s)).1.2.2.1), .string ((docR (numS s)).1.2.2.2.1), .int .i64 ((docR (numS s)).1.2.2.2.2.1), .string ((docR (numS s)).1.2.2.2.2.2.1), .string ((docR (numS s)).1.2.2.2.2.2.2.1), .string ((docR (numS s)).1.2.2.2.2.2.2.2), .slice A (docR (numS s)).2.1.length c]).size = 22) := Lib.hid ((putAt_size (by have := HSZ.out; simp; omega)).trans HSZ.out)
  clear HSZ
  have HSZ := HSZn
  clear HSZn
  have HOWn := Lib.hid (show OwnLineV (World.setRow _ bb (putAt cs0 13 [.string ((docR (numS s)).1.1), .bool ((docR (numS s)).1.2.1), .bool ((docR (numS s)).1.2.2.1), .string ((docR (numS s)).1.2.2.2.1), .int .i64 ((docR (numS s)).1.2.2.2.2.1), .string ((docR (numS s)).1.2.2.2.2.2.1), .string ((docR (numS s)).1.2.2.2.2.2.2.1), .string ((docR (numS s)).1.2.2.2.2.2.2.2), .slice A (docR (numS s)).2.1.length c])) w2.heap.size _ _ from World.ownsRow.kept (row := some bb) HOW.out ⟨rfl, rfl, rfl, by simp [World.setRow], fun k _ hk => setRow_other _ _ k _ (fun e => hk (by rw [e]))⟩ (.inr fun e => by have := (HOW.out.block _ e).1; have := HFar.out; omega))
  clear HOW
  have HOW := HOWn
  clear HOWn
  generalize World.setRow _ _ _ = w4 at HR2 HOW ⊢
  generalize hcs : putAt cs0 13 [.string ((docR (numS s)).1.1), .bool ((docR (numS s)).1.2.1), .bool ((docR (numS s)).1.2.2.1), .string ((docR (numS s)).1.2.2.2.1), .int .i64 ((docR (numS s)).1.2.2.2.2.1), .string ((docR (numS s)).1.2.2.2.2.2.1), .string ((docR (numS s)).1.2.2.2.2.2.2.1), .string ((docR (numS s)).1.2.2.2.2.2.2.2), .slice A (docR (numS s)).2.1.length c] = cs2 at HR2 HSZ
  have HCS2 : Hid (putAt cs0 13 [.string ((docR (numS s)).1.1), .bool ((docR (numS s)).1.2.1), .bool ((docR (numS s)).1.2.2.1), .string ((docR (numS s)).1.2.2.2.1), .int .i64 ((docR (numS s)).1.2.2.2.2.1), .string ((docR (numS s)).1.2.2.2.2.2.1), .string ((docR (numS s)).1.2.2.2.2.2.2.1), .string ((docR (numS s)).1.2.2.2.2.2.2.2), .slice A (docR (numS s)).2.1.length c] = cs2) := Lib.hid hcs
  clear hcs HR1
  have HONE : Hid (cs2.all (·.oneCell') = true) := Lib.hid (by rw [← HCS2.out, ← HCS.out]; simp [putAt, kindC, Value.oneCell'])
  have HI := Lib.hid (cmd_info HSZ.out)
  have HX := Lib.hid HR2.out.box
  have HZ9 := Lib.hid ((HR2.out.below w.heap.size HG.out.2 (Nat.ne_of_gt HG.out.1)).trans HZ.out)
  go_wp2_with ((with_reducible refine wpList_load_row (o := ⟨some 112, _, _, _, _, _⟩) ?a1 28 (.tmp 5) ?a2 bb ?a3 28 cs2 (0, 0) _ HX.out Try.underlying28 ?a4 HI.out ?_); (case a1 => rfl); (case a2 => rfl); (case a3 => rfl); (case a4 => rfl); refine Stop.out ?_)
  unfold Stop
  go_wp2_with ((with_reducible refine wpList_store_row (o := ⟨none, _, _, _, _, _⟩) ?b1 28 (.tmp 2) (.tmp 112) ?b2 w.heap.size cs2 ?b3 ?b4 28 zeroCmd HZ9.out HI.out ?b5 ?b6 ?_); (case b1 => rfl); (case b2 => rfl); (case b3 => rfl); (case b4 => rfl); (case b5 => exact HSZ.out.symm); (case b6 => exact HONE.out); refine Stop.out ?_)
  unfold Stop
  have HP9 := Lib.hid (setRow_heap _ w.heap.size _ cs2 _ _ HZ9.out)
  go_wp2
  have HE : Hid (cs2 = putAll (kindC 8) [(13, [.string ((docR (numS s)).1.1), .bool ((docR (numS s)).1.2.1), .bool ((docR (numS s)).1.2.2.1), .string ((docR (numS s)).1.2.2.2.1), .int .i64 ((docR (numS s)).1.2.2.2.2.1), .string ((docR (numS s)).1.2.2.2.2.2.1), .string ((docR (numS s)).1.2.2.2.2.2.2.1), .string ((docR (numS s)).1.2.2.2.2.2.2.2), .slice A (docR (numS s)).2.1.length c])]) := Lib.hid (by unfold putAll; rw [← HCS2.out, ← HCS.out]; rfl)
  refine bodyPost_ret (v := .agg cs2) (results_cell_row Try.results38 _ _ w.heap.size 28 cs2 (0, 0) _ rfl HP9.out Try.underlying28 rfl HI.out) rfl ⟨A, c, by rw [HE.out], ?_, (HP.out _ _ HR2.out.rs).far (only_setRow _ _ _) (Nat.le_refl _)⟩
  exact World.ownsRow.kept (row := some w.heap.size) (OwnLineV.less HOW.out (Nat.le_trans (Nat.le_of_lt HG.out.2) HB2.out)) ⟨rfl, rfl, rfl, by simp [World.setRow], fun k _ hk => setRow_other _ _ k _ (fun e => hk (by rw [e]))⟩ (.inr fun e => by
    have := (HOW.out.block _ e).1
    have := HG.out.2
    have := HB2.out
    omega)
end Go.Proofs.Ytplghpamckdklaa
