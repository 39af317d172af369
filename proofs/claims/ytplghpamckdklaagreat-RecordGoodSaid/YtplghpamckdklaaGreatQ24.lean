/- A command, read, by its kind (8). The chapter's document, read from its bytes. -/
import Derived.Test.YtplghpamckdklaaGreatQ21
import Derived.Test.YtplghpamckdklaaGreatQ23
import Derived.Deep.Cut
import Derived.Deep.DeepCutAuto
import Derived.Laws.CopyOwn
import Derived.Test.YtplghpamckdklaaGreatQ19
import Derived.Test.YtplghpamckdklaaGreatQ22
namespace Go.Proofs.YtplghpamckdklaaGreat
open Go.RowKit Go.ChangeShapes
set_option maxRecDepth 100000
set_option linter.unusedSimpArgs false
set_option linter.unusedVariables false

set_option maxHeartbeats 4000000 in
theorem read_8 (g : Nat) (s : Bool × Text) (w : World) (hr : Rdr w g s.1 s.2) (hk : numV s = 8) : Calls Tryz.prog 45 #[.pointer (some ⟨g, 0, none⟩)] w fun e w1 => ∃ A c, e = .returned (.agg (putAll (kindC 8) [(13, [.string ((docR (numS s)).1.1), .bool ((docR (numS s)).1.2.1), .bool ((docR (numS s)).1.2.2.1), .string ((docR (numS s)).1.2.2.2.1), .int .i64 ((docR (numS s)).1.2.2.2.2.1), .string ((docR (numS s)).1.2.2.2.2.2.1), .string ((docR (numS s)).1.2.2.2.2.2.2.1), .string ((docR (numS s)).1.2.2.2.2.2.2.2), .slice A (docR (numS s)).2.1.length c])])) ∧ OwnLineV w1 w.heap.size (.slice A (docR (numS s)).2.1.length c) (docR (numS s)).2.1 ∧ RS w w1 g (docR (numS s)).2.2 := by
  have HS0 := Lib.hid (RS.start (hr.on (below_alloc w (.cells #[.int .i64 0, .string ⟨#[]⟩, .string ⟨#[]⟩, .int .i64 0, .int .i64 0, .int .i64 0, .int .i64 0, .int .i64 0, .int .i64 0, .int .i64 0, .int .i64 0, .int .i64 0, .int .i64 0, .string ⟨#[]⟩, .bool false, .bool false, .string ⟨#[]⟩, .int .i64 0, .string ⟨#[]⟩, .string ⟨#[]⟩, .string ⟨#[]⟩, .slice none 0 0] 28))))
  have HZ0 := Lib.hid (heap_alloc_new w (.cells #[.int .i64 0, .string ⟨#[]⟩, .string ⟨#[]⟩, .int .i64 0, .int .i64 0, .int .i64 0, .int .i64 0, .int .i64 0, .int .i64 0, .int .i64 0, .int .i64 0, .int .i64 0, .int .i64 0, .string ⟨#[]⟩, .bool false, .bool false, .string ⟨#[]⟩, .int .i64 0, .string ⟨#[]⟩, .string ⟨#[]⟩, .string ⟨#[]⟩, .slice none 0 0] 28))
  have hgw : g < w.heap.size := heapLt hr.choose_spec.choose_spec.1
  have HP : Hid (∀ w1 s1, RS (w.alloc (.cells #[.int .i64 0, .string ⟨#[]⟩, .string ⟨#[]⟩, .int .i64 0, .int .i64 0, .int .i64 0, .int .i64 0, .int .i64 0, .int .i64 0, .int .i64 0, .int .i64 0, .int .i64 0, .int .i64 0, .string ⟨#[]⟩, .bool false, .bool false, .string ⟨#[]⟩, .int .i64 0, .string ⟨#[]⟩, .string ⟨#[]⟩, .string ⟨#[]⟩, .slice none 0 0] 28)) w1 g s1 → RS w w1 g s1) := Lib.hid (fun w1 s1 h => ⟨h.1, (Only.of_below (below_alloc w (.cells #[.int .i64 0, .string ⟨#[]⟩, .string ⟨#[]⟩, .int .i64 0, .int .i64 0, .int .i64 0, .int .i64 0, .int .i64 0, .int .i64 0, .int .i64 0, .int .i64 0, .int .i64 0, .int .i64 0, .string ⟨#[]⟩, .bool false, .bool false, .string ⟨#[]⟩, .int .i64 0, .string ⟨#[]⟩, .string ⟨#[]⟩, .string ⟨#[]⟩, .slice none 0 0] 28))).trans h.2.1, hgw⟩)
  have HG : Hid (g < w.heap.size ∧ w.heap.size < (w.alloc (.cells #[.int .i64 0, .string ⟨#[]⟩, .string ⟨#[]⟩, .int .i64 0, .int .i64 0, .int .i64 0, .int .i64 0, .int .i64 0, .int .i64 0, .int .i64 0, .int .i64 0, .int .i64 0, .int .i64 0, .string ⟨#[]⟩, .bool false, .bool false, .string ⟨#[]⟩, .int .i64 0, .string ⟨#[]⟩, .string ⟨#[]⟩, .string ⟨#[]⟩, .slice none 0 0] 28)).heap.size) := Lib.hid ⟨hgw, by simp⟩
  have HK := Lib.hid hk
  have hmf : ∀ (fn : Fn) (first cap : Array Value) (w : World), (Instr.makeFunc fn first cap).run Tryz.prog w = .ok (.func fn first cap) w := fun _ _ _ _ => rfl
  clear hr hgw hk
  go_enter Tryz.func45, Tryz.ntmps45
  go_upto_region 2 with fail
  generalize World.alloc w _ = w0 at HS0 HZ0 HP HG ⊢
  have HZ : Hid (w0.heap[w.heap.size]? = some (.cells zeroCmd 28 (0, 0))) := HZ0
  clear HZ0
  have HN : Hid (Calls Tryz.prog 73 #[.pointer (some ⟨g, 0, none⟩)] w0 fun e w1 => e = .returned (.int .i64 8) ∧ RS w0 w1 g (numS s)) := Lib.hid (HS0.out.num.mono fun e w1 h => ⟨by rw [← HK.out]; exact h.1, h.2.1⟩)
  go_wp2_with (go_at_call 73; refine HN.out.mono ?_; rintro e w1 ⟨rfl, hs⟩; have HR := Lib.hid hs; clear hs; refine Stop.out ?_)
  unfold Stop
  have HA := Lib.hid (heap_alloc_new w1 (.cells #[.int .i64 0, .string ⟨#[]⟩, .string ⟨#[]⟩, .int .i64 0, .int .i64 0, .int .i64 0, .int .i64 0, .int .i64 0, .int .i64 0, .int .i64 0, .int .i64 0, .int .i64 0, .int .i64 0, .string ⟨#[]⟩, .bool false, .bool false, .string ⟨#[]⟩, .int .i64 0, .string ⟨#[]⟩, .string ⟨#[]⟩, .string ⟨#[]⟩, .slice none 0 0] 28))
  have HC := Lib.hid ((RC.start (cs := #[.int .i64 0, .string ⟨#[]⟩, .string ⟨#[]⟩, .int .i64 0, .int .i64 0, .int .i64 0, .int .i64 0, .int .i64 0, .int .i64 0, .int .i64 0, .int .i64 0, .int .i64 0, .int .i64 0, .string ⟨#[]⟩, .bool false, .bool false, .string ⟨#[]⟩, .int .i64 0, .string ⟨#[]⟩, .string ⟨#[]⟩, .string ⟨#[]⟩, .slice none 0 0]) HR.out).put #[.int .i64 8, .string ⟨#[]⟩, .string ⟨#[]⟩, .int .i64 0, .int .i64 0, .int .i64 0, .int .i64 0, .int .i64 0, .int .i64 0, .int .i64 0, .int .i64 0, .int .i64 0, .int .i64 0, .string ⟨#[]⟩, .bool false, .bool false, .string ⟨#[]⟩, .int .i64 0, .string ⟨#[]⟩, .string ⟨#[]⟩, .string ⟨#[]⟩, .slice none 0 0])
  have HO1 : Hid ((#[.int .i64 8, .string ⟨#[]⟩, .string ⟨#[]⟩, .int .i64 0, .int .i64 0, .int .i64 0, .int .i64 0, .int .i64 0, .int .i64 0, .int .i64 0, .int .i64 0, .int .i64 0, .int .i64 0, .string ⟨#[]⟩, .bool false, .bool false, .string ⟨#[]⟩, .int .i64 0, .string ⟨#[]⟩, .string ⟨#[]⟩, .string ⟨#[]⟩, .slice none 0 0] : Array Value).all (·.oneCell') = true) := Lib.hid (by simp [Value.oneCell'])
  go_wp2_with ((with_reducible refine wpList_store_row (o := ⟨none, _, _, _, _, _⟩) ?b1 28 (.tmp 5) (.tmp 12) ?b2 w1.heap.size #[.int .i64 8, .string ⟨#[]⟩, .string ⟨#[]⟩, .int .i64 0, .int .i64 0, .int .i64 0, .int .i64 0, .int .i64 0, .int .i64 0, .int .i64 0, .int .i64 0, .int .i64 0, .int .i64 0, .string ⟨#[]⟩, .bool false, .bool false, .string ⟨#[]⟩, .int .i64 0, .string ⟨#[]⟩, .string ⟨#[]⟩, .string ⟨#[]⟩, .slice none 0 0] ?b3 ?b4 28 #[.int .i64 0, .string ⟨#[]⟩, .string ⟨#[]⟩, .int .i64 0, .int .i64 0, .int .i64 0, .int .i64 0, .int .i64 0, .int .i64 0, .int .i64 0, .int .i64 0, .int .i64 0, .int .i64 0, .string ⟨#[]⟩, .bool false, .bool false, .string ⟨#[]⟩, .int .i64 0, .string ⟨#[]⟩, .string ⟨#[]⟩, .string ⟨#[]⟩, .slice none 0 0] HA.out ?b5 ?b6 ?b7 ?_); (case b1 => rfl); (case b2 => rfl); (case b3 => rfl); (case b4 => rfl); (case b5 => exact cells_info'); (case b6 => rfl); (case b7 => exact HO1.out); refine Stop.out ?_)
  unfold Stop
  generalize World.setRow _ _ _ = w2 at HC ⊢
  generalize w1.heap.size = bb at HC ⊢
  generalize Value.agg #[.int .i64 8, .string ⟨#[]⟩, .string ⟨#[]⟩, .int .i64 0, .int .i64 0, .int .i64 0, .int .i64 0, .int .i64 0, .int .i64 0, .int .i64 0, .int .i64 0, .int .i64 0, .int .i64 0, .string ⟨#[]⟩, .bool false, .bool false, .string ⟨#[]⟩, .int .i64 0, .string ⟨#[]⟩, .string ⟨#[]⟩, .string ⟨#[]⟩, .slice none 0 0] = vk
  clear HA HO1
  have HC1 : Hid (RC w0 w2 g (numS s) bb (kindC 8)) := HC
  clear HC
  have HC := HC1
  clear HC1
  have y0 := HC.out.at0
  have HSZ : Hid ((kindC 8).size = 22) := Lib.hid (kindC_size _)
  generalize hcs : kindC 8 = cs0 at HC HSZ
  have HCS : Hid (kindC 8 = cs0) := Lib.hid hcs
  clear hcs HR HN HS0
  have HB2 : Hid (w0.heap.size ≤ w2.heap.size) := Lib.hid HC.out.rs.2.1.size
  have HDf := Lib.hid (read_doc g (numS s) w2 HC.out.rs.1)
  go_wp2_with (go_at_call 76; refine HDf.out.mono ?_; rintro e w3 ⟨A, c, rfl, how, hrs⟩; have HOW := Lib.hid how; have HR1 := Lib.hid (HC.out.read ⟨hrs.1, HC.out.rs.2.1.trans hrs.2.1, HC.out.rs.2.2⟩ hrs.2.1); clear how hrs; clear y0; refine Stop.out ?_)
  unfold Stop
  have HFar := Lib.hid (heapLt HC.out.box)
  clear HC HDf
  go_wp2_with ((with_reducible refine wpList_store_part (o := ⟨none, _, _, _, _, _⟩) ?a0 26 (.tmp 99) (.tmp 98) ?a1 bb 13 ?a2 (.agg (docC (docR (numS s)).1 (.slice A (docR (numS s)).2.1.length c))) [.string ((docR (numS s)).1.1), .bool ((docR (numS s)).1.2.1), .bool ((docR (numS s)).1.2.2.1), .string ((docR (numS s)).1.2.2.2.1), .int .i64 ((docR (numS s)).1.2.2.2.2.1), .string ((docR (numS s)).1.2.2.2.2.2.1), .string ((docR (numS s)).1.2.2.2.2.2.2.1), .string ((docR (numS s)).1.2.2.2.2.2.2.2), .slice A (docR (numS s)).2.1.length c] 9 ?a3 ?a4 ?a5 ?a6 ?a7 cs0 28 HR1.out.box ?a8 ?_); (case a0 => rfl); (case a1 => rfl); (case a2 => rfl); (case a3 => kernel_rfl); (case a4 => rfl); (case a5 => rfl); (case a6 => intro u hu; simp only [List.mem_cons, List.not_mem_nil, or_false] at hu; rcases hu with rfl | rfl | rfl | rfl | rfl | rfl | rfl | rfl | rfl <;> rfl); (case a7 => rfl); (case a8 => have := HSZ.out; simp; omega); refine Stop.out ?_)
  unfold Stop
  have HR2 := Lib.hid (HR1.out.put (putAt cs0 13 [.string ((docR (numS s)).1.1), .bool ((docR (numS s)).1.2.1), .bool ((docR (numS s)).1.2.2.1), .string ((docR (numS s)).1.2.2.2.1), .int .i64 ((docR (numS s)).1.2.2.2.2.1), .string ((docR (numS s)).1.2.2.2.2.2.1), .string ((docR (numS s)).1.2.2.2.2.2.2.1), .string ((docR (numS s)).1.2.2.2.2.2.2.2), .slice A (docR (numS s)).2.1.length c]))
  have HSZn : Hid ((putAt cs0 13 [.string ((docR (numS s)).1.1), .bool ((docR (numS s)).1.2.1), .bool ((docR (numS s)).1.2.2.1), .string ((docR (numS s)).1.2.2.2.1), .int .i64 ((docR (numS s)).1.2.2.2.2.1), .string ((docR (numS s)).1.2.2.2.2.2.1), .string ((docR (numS s)).1.2.2.2.2.2.2.1), .string ((docR (numS s)).1.2.2.2.2.2.2.2), .slice A (docR (numS s)).2.1.length c]).size = 22) := Lib.hid ((putAt_size (by have := HSZ.out; simp; omega)).trans HSZ.out)
  clear HSZ
  have HSZ := HSZn
  clear HSZn
  have HOWn := Lib.hid (show OwnLineV (World.setRow _ bb (putAt cs0 13 [.string ((docR (numS s)).1.1), .bool ((docR (numS s)).1.2.1), .bool ((docR (numS s)).1.2.2.1), .string ((docR (numS s)).1.2.2.2.1), .int .i64 ((docR (numS s)).1.2.2.2.2.1), .string ((docR (numS s)).1.2.2.2.2.2.1), .string ((docR (numS s)).1.2.2.2.2.2.2.1), .string ((docR (numS s)).1.2.2.2.2.2.2.2), .slice A (docR (numS s)).2.1.length c])) w2.heap.size _ _ from World.ownsRow.kept (row := some bb) HOW.out ⟨rfl, rfl, rfl, by simp [World.setRow], fun k _ hk => setRow_other _ _ k _ (fun e => hk (by rw [e]))⟩ (.inr fun e => by have := (HOW.out.block _ e).1; have := HFar.out; omega))
  clear HOW
  have HOW := HOWn
  clear HOWn
  generalize World.setRow _ _ _ = w4 at HR2 HOW ⊢
  generalize hcs : putAt cs0 13 [.string ((docR (numS s)).1.1), .bool ((docR (numS s)).1.2.1), .bool ((docR (numS s)).1.2.2.1), .string ((docR (numS s)).1.2.2.2.1), .int .i64 ((docR (numS s)).1.2.2.2.2.1), .string ((docR (numS s)).1.2.2.2.2.2.1), .string ((docR (numS s)).1.2.2.2.2.2.2.1), .string ((docR (numS s)).1.2.2.2.2.2.2.2), .slice A (docR (numS s)).2.1.length c] = cs2 at HR2 HSZ
  have HCS2 : Hid (putAt cs0 13 [.string ((docR (numS s)).1.1), .bool ((docR (numS s)).1.2.1), .bool ((docR (numS s)).1.2.2.1), .string ((docR (numS s)).1.2.2.2.1), .int .i64 ((docR (numS s)).1.2.2.2.2.1), .string ((docR (numS s)).1.2.2.2.2.2.1), .string ((docR (numS s)).1.2.2.2.2.2.2.1), .string ((docR (numS s)).1.2.2.2.2.2.2.2), .slice A (docR (numS s)).2.1.length c] = cs2) := Lib.hid hcs
  clear hcs HR1
  have HONE : Hid (cs2.all (·.oneCell') = true) := Lib.hid (by rw [← HCS2.out, ← HCS.out]; simp [putAt, kindC, Value.oneCell'])
  have HI := Lib.hid (cmd_info HSZ.out)
  have HX := Lib.hid HR2.out.box
  have HZ9 := Lib.hid ((HR2.out.below w.heap.size HG.out.2 (Nat.ne_of_gt HG.out.1)).trans HZ.out)
  go_wp2_with ((with_reducible refine wpList_load_row (o := ⟨some 112, _, _, _, _, _⟩) ?a1 28 (.tmp 5) ?a2 bb ?a3 28 cs2 (0, 0) _ HX.out Tryz.underlying28 ?a4 HI.out ?_); (case a1 => rfl); (case a2 => rfl); (case a3 => rfl); (case a4 => rfl); refine Stop.out ?_)
  unfold Stop
  go_wp2_with ((with_reducible refine wpList_store_row (o := ⟨none, _, _, _, _, _⟩) ?b1 28 (.tmp 2) (.tmp 112) ?b2 w.heap.size cs2 ?b3 ?b4 28 zeroCmd HZ9.out HI.out ?b5 ?b6 ?_); (case b1 => rfl); (case b2 => rfl); (case b3 => rfl); (case b4 => rfl); (case b5 => exact HSZ.out.symm); (case b6 => exact HONE.out); refine Stop.out ?_)
  unfold Stop
  have HP9 := Lib.hid (setRow_heap _ w.heap.size _ cs2 _ _ HZ9.out)
  go_wp2
  have HE : Hid (cs2 = putAll (kindC 8) [(13, [.string ((docR (numS s)).1.1), .bool ((docR (numS s)).1.2.1), .bool ((docR (numS s)).1.2.2.1), .string ((docR (numS s)).1.2.2.2.1), .int .i64 ((docR (numS s)).1.2.2.2.2.1), .string ((docR (numS s)).1.2.2.2.2.2.1), .string ((docR (numS s)).1.2.2.2.2.2.2.1), .string ((docR (numS s)).1.2.2.2.2.2.2.2), .slice A (docR (numS s)).2.1.length c])]) := Lib.hid (by unfold putAll; rw [← HCS2.out, ← HCS.out]; rfl)
  refine bodyPost_ret (v := .agg cs2) (results_cell_row Tryz.results45 _ _ w.heap.size 28 cs2 (0, 0) _ rfl HP9.out Tryz.underlying28 rfl HI.out) rfl ⟨A, c, by rw [HE.out], ?_, (HP.out _ _ HR2.out.rs).far (only_setRow _ _ _) (Nat.le_refl _)⟩
  exact World.ownsRow.kept (row := some w.heap.size) (OwnLineV.less HOW.out (Nat.le_trans (Nat.le_of_lt HG.out.2) HB2.out)) ⟨rfl, rfl, rfl, by simp [World.setRow], fun k _ hk => setRow_other _ _ k _ (fun e => hk (by rw [e]))⟩ (.inr fun e => by
    have := (HOW.out.block _ e).1
    have := HG.out.2
    have := HB2.out
    omega)
end Go.Proofs.YtplghpamckdklaaGreat

namespace Go.Proofs.YtplghpamckdklaaGreat
open Go.RowKit Go.ChangeShapes
set_option maxRecDepth 100000
set_option linter.unusedSimpArgs false
set_option linter.unusedVariables false

theorem rv0 : numV (false, ([1, 8, 1, 1, 97, 1, 0, 0, 2, 74, 56, 1, 2, 68, 69, 0, 0, 1, 1, 1, 2, 1, 1, 0, 0, 0, 2, 3, 232, 0, 0, 0] : Text)) = 8 := by unfold numV; rw [show ((false, ([1, 8, 1, 1, 97, 1, 0, 0, 2, 74, 56, 1, 2, 68, 69, 0, 0, 1, 1, 1, 2, 1, 1, 0, 0, 0, 2, 3, 232, 0, 0, 0] : Text)) : Bool × Text).2 = ([1, 8, 1, 1, 97, 1, 0, 0, 2, 74, 56, 1, 2, 68, 69, 0, 0, 1, 1, 1, 2, 1, 1, 0, 0, 0, 2, 3, 232, 0, 0, 0] : Text) from rfl, rd0]
theorem rs0 : numS (false, ([1, 8, 1, 1, 97, 1, 0, 0, 2, 74, 56, 1, 2, 68, 69, 0, 0, 1, 1, 1, 2, 1, 1, 0, 0, 0, 2, 3, 232, 0, 0, 0] : Text)) = (false, ([1, 1, 97, 1, 0, 0, 2, 74, 56, 1, 2, 68, 69, 0, 0, 1, 1, 1, 2, 1, 1, 0, 0, 0, 2, 3, 232, 0, 0, 0] : Text)) := by unfold numS; rw [show ((false, ([1, 8, 1, 1, 97, 1, 0, 0, 2, 74, 56, 1, 2, 68, 69, 0, 0, 1, 1, 1, 2, 1, 1, 0, 0, 0, 2, 3, 232, 0, 0, 0] : Text)) : Bool × Text).2 = ([1, 8, 1, 1, 97, 1, 0, 0, 2, 74, 56, 1, 2, 68, 69, 0, 0, 1, 1, 1, 2, 1, 1, 0, 0, 0, 2, 3, 232, 0, 0, 0] : Text) from rfl, rd0]
theorem rv1 : textV (false, ([1, 1, 97, 1, 0, 0, 2, 74, 56, 1, 2, 68, 69, 0, 0, 1, 1, 1, 2, 1, 1, 0, 0, 0, 2, 3, 232, 0, 0, 0] : Text)) = ⟨#[97]⟩ := by unfold textV; rw [show ((false, ([1, 1, 97, 1, 0, 0, 2, 74, 56, 1, 2, 68, 69, 0, 0, 1, 1, 1, 2, 1, 1, 0, 0, 0, 2, 3, 232, 0, 0, 0] : Text)) : Bool × Text).2 = ([1, 1, 97, 1, 0, 0, 2, 74, 56, 1, 2, 68, 69, 0, 0, 1, 1, 1, 2, 1, 1, 0, 0, 0, 2, 3, 232, 0, 0, 0] : Text) from rfl, rd1]
theorem rs1 : textS (false, ([1, 1, 97, 1, 0, 0, 2, 74, 56, 1, 2, 68, 69, 0, 0, 1, 1, 1, 2, 1, 1, 0, 0, 0, 2, 3, 232, 0, 0, 0] : Text)) = (false, ([1, 0, 0, 2, 74, 56, 1, 2, 68, 69, 0, 0, 1, 1, 1, 2, 1, 1, 0, 0, 0, 2, 3, 232, 0, 0, 0] : Text)) := by unfold textS; rw [show ((false, ([1, 1, 97, 1, 0, 0, 2, 74, 56, 1, 2, 68, 69, 0, 0, 1, 1, 1, 2, 1, 1, 0, 0, 0, 2, 3, 232, 0, 0, 0] : Text)) : Bool × Text).2 = ([1, 1, 97, 1, 0, 0, 2, 74, 56, 1, 2, 68, 69, 0, 0, 1, 1, 1, 2, 1, 1, 0, 0, 0, 2, 3, 232, 0, 0, 0] : Text) from rfl, rd1]
theorem rv2 : flagV (false, ([1, 0, 0, 2, 74, 56, 1, 2, 68, 69, 0, 0, 1, 1, 1, 2, 1, 1, 0, 0, 0, 2, 3, 232, 0, 0, 0] : Text)) = true := by unfold flagV; rw [show ((false, ([1, 0, 0, 2, 74, 56, 1, 2, 68, 69, 0, 0, 1, 1, 1, 2, 1, 1, 0, 0, 0, 2, 3, 232, 0, 0, 0] : Text)) : Bool × Text).2 = ([1, 0, 0, 2, 74, 56, 1, 2, 68, 69, 0, 0, 1, 1, 1, 2, 1, 1, 0, 0, 0, 2, 3, 232, 0, 0, 0] : Text) from rfl, rd2]
theorem rs2 : flagS (false, ([1, 0, 0, 2, 74, 56, 1, 2, 68, 69, 0, 0, 1, 1, 1, 2, 1, 1, 0, 0, 0, 2, 3, 232, 0, 0, 0] : Text)) = (false, ([0, 0, 2, 74, 56, 1, 2, 68, 69, 0, 0, 1, 1, 1, 2, 1, 1, 0, 0, 0, 2, 3, 232, 0, 0, 0] : Text)) := by unfold flagS; rw [show ((false, ([1, 0, 0, 2, 74, 56, 1, 2, 68, 69, 0, 0, 1, 1, 1, 2, 1, 1, 0, 0, 0, 2, 3, 232, 0, 0, 0] : Text)) : Bool × Text).2 = ([1, 0, 0, 2, 74, 56, 1, 2, 68, 69, 0, 0, 1, 1, 1, 2, 1, 1, 0, 0, 0, 2, 3, 232, 0, 0, 0] : Text) from rfl, rd2]
theorem rv3 : flagV (false, ([0, 0, 2, 74, 56, 1, 2, 68, 69, 0, 0, 1, 1, 1, 2, 1, 1, 0, 0, 0, 2, 3, 232, 0, 0, 0] : Text)) = false := by unfold flagV; rw [show ((false, ([0, 0, 2, 74, 56, 1, 2, 68, 69, 0, 0, 1, 1, 1, 2, 1, 1, 0, 0, 0, 2, 3, 232, 0, 0, 0] : Text)) : Bool × Text).2 = ([0, 0, 2, 74, 56, 1, 2, 68, 69, 0, 0, 1, 1, 1, 2, 1, 1, 0, 0, 0, 2, 3, 232, 0, 0, 0] : Text) from rfl, rd3]
theorem rs3 : flagS (false, ([0, 0, 2, 74, 56, 1, 2, 68, 69, 0, 0, 1, 1, 1, 2, 1, 1, 0, 0, 0, 2, 3, 232, 0, 0, 0] : Text)) = (false, ([0, 2, 74, 56, 1, 2, 68, 69, 0, 0, 1, 1, 1, 2, 1, 1, 0, 0, 0, 2, 3, 232, 0, 0, 0] : Text)) := by unfold flagS; rw [show ((false, ([0, 0, 2, 74, 56, 1, 2, 68, 69, 0, 0, 1, 1, 1, 2, 1, 1, 0, 0, 0, 2, 3, 232, 0, 0, 0] : Text)) : Bool × Text).2 = ([0, 0, 2, 74, 56, 1, 2, 68, 69, 0, 0, 1, 1, 1, 2, 1, 1, 0, 0, 0, 2, 3, 232, 0, 0, 0] : Text) from rfl, rd3]
theorem rv4 : textV (false, ([0, 2, 74, 56, 1, 2, 68, 69, 0, 0, 1, 1, 1, 2, 1, 1, 0, 0, 0, 2, 3, 232, 0, 0, 0] : Text)) = ⟨#[]⟩ := by unfold textV; rw [show ((false, ([0, 2, 74, 56, 1, 2, 68, 69, 0, 0, 1, 1, 1, 2, 1, 1, 0, 0, 0, 2, 3, 232, 0, 0, 0] : Text)) : Bool × Text).2 = ([0, 2, 74, 56, 1, 2, 68, 69, 0, 0, 1, 1, 1, 2, 1, 1, 0, 0, 0, 2, 3, 232, 0, 0, 0] : Text) from rfl, rd4]
theorem rs4 : textS (false, ([0, 2, 74, 56, 1, 2, 68, 69, 0, 0, 1, 1, 1, 2, 1, 1, 0, 0, 0, 2, 3, 232, 0, 0, 0] : Text)) = (false, ([2, 74, 56, 1, 2, 68, 69, 0, 0, 1, 1, 1, 2, 1, 1, 0, 0, 0, 2, 3, 232, 0, 0, 0] : Text)) := by unfold textS; rw [show ((false, ([0, 2, 74, 56, 1, 2, 68, 69, 0, 0, 1, 1, 1, 2, 1, 1, 0, 0, 0, 2, 3, 232, 0, 0, 0] : Text)) : Bool × Text).2 = ([0, 2, 74, 56, 1, 2, 68, 69, 0, 0, 1, 1, 1, 2, 1, 1, 0, 0, 0, 2, 3, 232, 0, 0, 0] : Text) from rfl, rd4]
theorem rv5 : numV (false, ([2, 74, 56, 1, 2, 68, 69, 0, 0, 1, 1, 1, 2, 1, 1, 0, 0, 0, 2, 3, 232, 0, 0, 0] : Text)) = 19000 := by unfold numV; rw [show ((false, ([2, 74, 56, 1, 2, 68, 69, 0, 0, 1, 1, 1, 2, 1, 1, 0, 0, 0, 2, 3, 232, 0, 0, 0] : Text)) : Bool × Text).2 = ([2, 74, 56, 1, 2, 68, 69, 0, 0, 1, 1, 1, 2, 1, 1, 0, 0, 0, 2, 3, 232, 0, 0, 0] : Text) from rfl, rd5]
theorem rs5 : numS (false, ([2, 74, 56, 1, 2, 68, 69, 0, 0, 1, 1, 1, 2, 1, 1, 0, 0, 0, 2, 3, 232, 0, 0, 0] : Text)) = (false, ([1, 2, 68, 69, 0, 0, 1, 1, 1, 2, 1, 1, 0, 0, 0, 2, 3, 232, 0, 0, 0] : Text)) := by unfold numS; rw [show ((false, ([2, 74, 56, 1, 2, 68, 69, 0, 0, 1, 1, 1, 2, 1, 1, 0, 0, 0, 2, 3, 232, 0, 0, 0] : Text)) : Bool × Text).2 = ([2, 74, 56, 1, 2, 68, 69, 0, 0, 1, 1, 1, 2, 1, 1, 0, 0, 0, 2, 3, 232, 0, 0, 0] : Text) from rfl, rd5]
theorem rv6 : textV (false, ([1, 2, 68, 69, 0, 0, 1, 1, 1, 2, 1, 1, 0, 0, 0, 2, 3, 232, 0, 0, 0] : Text)) = ⟨#[68, 69]⟩ := by unfold textV; rw [show ((false, ([1, 2, 68, 69, 0, 0, 1, 1, 1, 2, 1, 1, 0, 0, 0, 2, 3, 232, 0, 0, 0] : Text)) : Bool × Text).2 = ([1, 2, 68, 69, 0, 0, 1, 1, 1, 2, 1, 1, 0, 0, 0, 2, 3, 232, 0, 0, 0] : Text) from rfl, rd6]
theorem rs6 : textS (false, ([1, 2, 68, 69, 0, 0, 1, 1, 1, 2, 1, 1, 0, 0, 0, 2, 3, 232, 0, 0, 0] : Text)) = (false, ([0, 0, 1, 1, 1, 2, 1, 1, 0, 0, 0, 2, 3, 232, 0, 0, 0] : Text)) := by unfold textS; rw [show ((false, ([1, 2, 68, 69, 0, 0, 1, 1, 1, 2, 1, 1, 0, 0, 0, 2, 3, 232, 0, 0, 0] : Text)) : Bool × Text).2 = ([1, 2, 68, 69, 0, 0, 1, 1, 1, 2, 1, 1, 0, 0, 0, 2, 3, 232, 0, 0, 0] : Text) from rfl, rd6]
theorem rv7 : textV (false, ([0, 0, 1, 1, 1, 2, 1, 1, 0, 0, 0, 2, 3, 232, 0, 0, 0] : Text)) = ⟨#[]⟩ := by unfold textV; rw [show ((false, ([0, 0, 1, 1, 1, 2, 1, 1, 0, 0, 0, 2, 3, 232, 0, 0, 0] : Text)) : Bool × Text).2 = ([0, 0, 1, 1, 1, 2, 1, 1, 0, 0, 0, 2, 3, 232, 0, 0, 0] : Text) from rfl, rd7]
theorem rs7 : textS (false, ([0, 0, 1, 1, 1, 2, 1, 1, 0, 0, 0, 2, 3, 232, 0, 0, 0] : Text)) = (false, ([0, 1, 1, 1, 2, 1, 1, 0, 0, 0, 2, 3, 232, 0, 0, 0] : Text)) := by unfold textS; rw [show ((false, ([0, 0, 1, 1, 1, 2, 1, 1, 0, 0, 0, 2, 3, 232, 0, 0, 0] : Text)) : Bool × Text).2 = ([0, 0, 1, 1, 1, 2, 1, 1, 0, 0, 0, 2, 3, 232, 0, 0, 0] : Text) from rfl, rd7]
theorem rv8 : textV (false, ([0, 1, 1, 1, 2, 1, 1, 0, 0, 0, 2, 3, 232, 0, 0, 0] : Text)) = ⟨#[]⟩ := by unfold textV; rw [show ((false, ([0, 1, 1, 1, 2, 1, 1, 0, 0, 0, 2, 3, 232, 0, 0, 0] : Text)) : Bool × Text).2 = ([0, 1, 1, 1, 2, 1, 1, 0, 0, 0, 2, 3, 232, 0, 0, 0] : Text) from rfl, rd8]
theorem rs8 : textS (false, ([0, 1, 1, 1, 2, 1, 1, 0, 0, 0, 2, 3, 232, 0, 0, 0] : Text)) = (false, ([1, 1, 1, 2, 1, 1, 0, 0, 0, 2, 3, 232, 0, 0, 0] : Text)) := by unfold textS; rw [show ((false, ([0, 1, 1, 1, 2, 1, 1, 0, 0, 0, 2, 3, 232, 0, 0, 0] : Text)) : Bool × Text).2 = ([0, 1, 1, 1, 2, 1, 1, 0, 0, 0, 2, 3, 232, 0, 0, 0] : Text) from rfl, rd8]
theorem rv9 : numV (false, ([1, 1, 1, 2, 1, 1, 0, 0, 0, 2, 3, 232, 0, 0, 0] : Text)) = 1 := by unfold numV; rw [show ((false, ([1, 1, 1, 2, 1, 1, 0, 0, 0, 2, 3, 232, 0, 0, 0] : Text)) : Bool × Text).2 = ([1, 1, 1, 2, 1, 1, 0, 0, 0, 2, 3, 232, 0, 0, 0] : Text) from rfl, rd9]
theorem rs9 : numS (false, ([1, 1, 1, 2, 1, 1, 0, 0, 0, 2, 3, 232, 0, 0, 0] : Text)) = (false, ([1, 2, 1, 1, 0, 0, 0, 2, 3, 232, 0, 0, 0] : Text)) := by unfold numS; rw [show ((false, ([1, 1, 1, 2, 1, 1, 0, 0, 0, 2, 3, 232, 0, 0, 0] : Text)) : Bool × Text).2 = ([1, 1, 1, 2, 1, 1, 0, 0, 0, 2, 3, 232, 0, 0, 0] : Text) from rfl, rd9]
theorem rv10 : numV (false, ([1, 2, 1, 1, 0, 0, 0, 2, 3, 232, 0, 0, 0] : Text)) = 2 := by unfold numV; rw [show ((false, ([1, 2, 1, 1, 0, 0, 0, 2, 3, 232, 0, 0, 0] : Text)) : Bool × Text).2 = ([1, 2, 1, 1, 0, 0, 0, 2, 3, 232, 0, 0, 0] : Text) from rfl, rd10]
theorem rs10 : numS (false, ([1, 2, 1, 1, 0, 0, 0, 2, 3, 232, 0, 0, 0] : Text)) = (false, ([1, 1, 0, 0, 0, 2, 3, 232, 0, 0, 0] : Text)) := by unfold numS; rw [show ((false, ([1, 2, 1, 1, 0, 0, 0, 2, 3, 232, 0, 0, 0] : Text)) : Bool × Text).2 = ([1, 2, 1, 1, 0, 0, 0, 2, 3, 232, 0, 0, 0] : Text) from rfl, rd10]
theorem rv11 : numV (false, ([1, 1, 0, 0, 0, 2, 3, 232, 0, 0, 0] : Text)) = 1 := by unfold numV; rw [show ((false, ([1, 1, 0, 0, 0, 2, 3, 232, 0, 0, 0] : Text)) : Bool × Text).2 = ([1, 1, 0, 0, 0, 2, 3, 232, 0, 0, 0] : Text) from rfl, rd11]
theorem rs11 : numS (false, ([1, 1, 0, 0, 0, 2, 3, 232, 0, 0, 0] : Text)) = (false, ([0, 0, 0, 2, 3, 232, 0, 0, 0] : Text)) := by unfold numS; rw [show ((false, ([1, 1, 0, 0, 0, 2, 3, 232, 0, 0, 0] : Text)) : Bool × Text).2 = ([1, 1, 0, 0, 0, 2, 3, 232, 0, 0, 0] : Text) from rfl, rd11]
theorem rv12 : textV (false, ([0, 0, 0, 2, 3, 232, 0, 0, 0] : Text)) = ⟨#[]⟩ := by unfold textV; rw [show ((false, ([0, 0, 0, 2, 3, 232, 0, 0, 0] : Text)) : Bool × Text).2 = ([0, 0, 0, 2, 3, 232, 0, 0, 0] : Text) from rfl, rd12]
theorem rs12 : textS (false, ([0, 0, 0, 2, 3, 232, 0, 0, 0] : Text)) = (false, ([0, 0, 2, 3, 232, 0, 0, 0] : Text)) := by unfold textS; rw [show ((false, ([0, 0, 0, 2, 3, 232, 0, 0, 0] : Text)) : Bool × Text).2 = ([0, 0, 0, 2, 3, 232, 0, 0, 0] : Text) from rfl, rd12]
theorem rv13 : textV (false, ([0, 0, 2, 3, 232, 0, 0, 0] : Text)) = ⟨#[]⟩ := by unfold textV; rw [show ((false, ([0, 0, 2, 3, 232, 0, 0, 0] : Text)) : Bool × Text).2 = ([0, 0, 2, 3, 232, 0, 0, 0] : Text) from rfl, rd13]
theorem rs13 : textS (false, ([0, 0, 2, 3, 232, 0, 0, 0] : Text)) = (false, ([0, 2, 3, 232, 0, 0, 0] : Text)) := by unfold textS; rw [show ((false, ([0, 0, 2, 3, 232, 0, 0, 0] : Text)) : Bool × Text).2 = ([0, 0, 2, 3, 232, 0, 0, 0] : Text) from rfl, rd13]
theorem rv14 : textV (false, ([0, 2, 3, 232, 0, 0, 0] : Text)) = ⟨#[]⟩ := by unfold textV; rw [show ((false, ([0, 2, 3, 232, 0, 0, 0] : Text)) : Bool × Text).2 = ([0, 2, 3, 232, 0, 0, 0] : Text) from rfl, rd14]
theorem rs14 : textS (false, ([0, 2, 3, 232, 0, 0, 0] : Text)) = (false, ([2, 3, 232, 0, 0, 0] : Text)) := by unfold textS; rw [show ((false, ([0, 2, 3, 232, 0, 0, 0] : Text)) : Bool × Text).2 = ([0, 2, 3, 232, 0, 0, 0] : Text) from rfl, rd14]
theorem rv15 : numV (false, ([2, 3, 232, 0, 0, 0] : Text)) = 1000 := by unfold numV; rw [show ((false, ([2, 3, 232, 0, 0, 0] : Text)) : Bool × Text).2 = ([2, 3, 232, 0, 0, 0] : Text) from rfl, rd15]
theorem rs15 : numS (false, ([2, 3, 232, 0, 0, 0] : Text)) = (false, ([0, 0, 0] : Text)) := by unfold numS; rw [show ((false, ([2, 3, 232, 0, 0, 0] : Text)) : Bool × Text).2 = ([2, 3, 232, 0, 0, 0] : Text) from rfl, rd15]
theorem rv16 : flagV (false, ([0, 0, 0] : Text)) = false := by unfold flagV; rw [show ((false, ([0, 0, 0] : Text)) : Bool × Text).2 = ([0, 0, 0] : Text) from rfl, rd16]
theorem rs16 : flagS (false, ([0, 0, 0] : Text)) = (false, ([0, 0] : Text)) := by unfold flagS; rw [show ((false, ([0, 0, 0] : Text)) : Bool × Text).2 = ([0, 0, 0] : Text) from rfl, rd16]
theorem rv17 : numV (false, ([0, 0] : Text)) = 0 := by unfold numV; rw [show ((false, ([0, 0] : Text)) : Bool × Text).2 = ([0, 0] : Text) from rfl, rd17]
theorem rs17 : numS (false, ([0, 0] : Text)) = (false, ([0] : Text)) := by unfold numS; rw [show ((false, ([0, 0] : Text)) : Bool × Text).2 = ([0, 0] : Text) from rfl, rd17]
theorem rv18 : flagV (false, ([0] : Text)) = false := by unfold flagV; rw [show ((false, ([0] : Text)) : Bool × Text).2 = ([0] : Text) from rfl, rd18]
theorem rs18 : flagS (false, ([0] : Text)) = (false, ([] : Text)) := by unfold flagS; rw [show ((false, ([0] : Text)) : Bool × Text).2 = ([0] : Text) from rfl, rd18]
theorem simple_read : docR (numS (false, simpleT)) = ((⟨#[97]⟩, true, false, ⟨#[]⟩, 19000, ⟨#[68, 69]⟩, ⟨#[]⟩, ⟨#[]⟩), [simpleL], (false, [])) := by
  rw [simpleT_is, rs0]
  have hH : headS (false, ([1, 1, 97, 1, 0, 0, 2, 74, 56, 1, 2, 68, 69, 0, 0, 1, 1, 1, 2, 1, 1, 0, 0, 0, 2, 3, 232, 0, 0, 0] : Text)) = (false, ([1, 1, 1, 2, 1, 1, 0, 0, 0, 2, 3, 232, 0, 0, 0] : Text)) := by simp only [headS, rs1, rs2, rs3, rs4, rs5, rs6, rs7, rs8]
  have hV : headV (false, ([1, 1, 97, 1, 0, 0, 2, 74, 56, 1, 2, 68, 69, 0, 0, 1, 1, 1, 2, 1, 1, 0, 0, 0, 2, 3, 232, 0, 0, 0] : Text)) = (⟨#[97]⟩, true, false, ⟨#[]⟩, 19000, ⟨#[68, 69]⟩, ⟨#[]⟩, ⟨#[]⟩) := by simp only [headV, rs1, rs2, rs3, rs4, rs5, rs6, rs7, rs8, rv1, rv2, rv3, rv4, rv5, rv6, rv7, rv8]
  have hL : linesR 1 (false, ([1, 2, 1, 1, 0, 0, 0, 2, 3, 232, 0, 0, 0] : Text)) = ([simpleL], (false, [])) := by
    simp only [linesR, lineV, lineS, rs10, rs11, rs12, rs13, rs14, rs15, rs16, rs17, rs18, rv10, rv11, rv12, rv13, rv14, rv15, rv16, rv17, rv18]
    rfl
  unfold docR
  rw [hH, rv9, rs9, hV, if_neg (by decide)]
  show (_, (linesR 1 _).1, (linesR 1 _).2) = _
  rw [hL]
theorem simple_kind : numV (false, simpleT) = 8 := by rw [simpleT_is, rv0]
def simpleCs (A : Option Addr) (c : Nat) : Array Value := #[.int .i64 8, .string ⟨#[]⟩, .string ⟨#[]⟩, .int .i64 0, .int .i64 0, .int .i64 0, .int .i64 0, .int .i64 0, .int .i64 0, .int .i64 0, .int .i64 0, .int .i64 0, .int .i64 0, .string ⟨#[97]⟩, .bool true, .bool false, .string ⟨#[]⟩, .int .i64 19000, .string ⟨#[68, 69]⟩, .string ⟨#[]⟩, .string ⟨#[]⟩, .slice A 1 c]
theorem simpleCs_ok (A : Option Addr) (c : Nat) : (simpleCs A c).size = 22 ∧ (simpleCs A c).all (·.oneCell') = true := ⟨rfl, by simp [simpleCs, Value.oneCell']⟩
theorem decode_simple (A0 : Option Addr) (cap : Nat) (w : World) (hT : Txt w A0 simpleT) (hA : A0 = none → simpleT = []) :
    Calls Tryz.prog 16 #[.slice A0 simpleT.length cap] w fun e w1 => DecYes w simpleCs [simpleL] e w1 := by
  refine decode_yes simpleT A0 cap simpleCs [simpleL] (false, []) w (by rw [simpleT_is]; decide) hT hA (Lib.hid fun W g _ hr => ?_) (Lib.hid fun A c => simpleCs_ok A c) rfl (Lib.hid fun W A c _ hr h1 h2 h3 => ?_)
  · refine (read_8 g (false, simpleT) W hr simple_kind).mono fun e w1 h => ?_
    rw [simple_read] at h
    obtain ⟨A, c, he, ho, hs⟩ := h
    exact ⟨A, c, he, ho, hs⟩
  · cases A with
    | none => exact absurd (h1 rfl).1 (by simp)
    | some A => exact good_simple A c W hr h2 h3
end Go.Proofs.YtplghpamckdklaaGreat
