/- What stands in bytes, as the program reads it. -/
import Derived.Test.YtmjjenemokojjaaGreatD31
import Derived.Test.YtmjjenemokojjaaGreatD13
import Derived.WalkMore
import Derived.Laws.Rows
import Derived.Laws.Tables
import Derived.Laws.CopyRow
import Derived.Deep.Cut
import Derived.Deep.DeepCutAuto
import Derived.Laws.CopyOwn
namespace Go.Proofs.YtmjjenemokojjaaGreat
open Go.RowKit Go.ChangeShapes
set_option maxRecDepth 100000
set_option linter.unusedSimpArgs false
set_option linter.unusedVariables false

theorem own_set {w1 : World} {B r : Nat} {v : Value} {L : List LineV} {cs : Array Value} (h : OwnLineV w1 B v L) (hr : r < B) (hB : r ≤ B) : OwnLineV (w1.setRow r cs) r v L := by
 have hS := only_setRow w1 r cs
 refine OwnLineV.less (B := B) (World.ownsRow.kept (row := some r) h ⟨hS.os, hS.tape, hS.output, hS.size, fun k hk hn => hS.block k hk (fun e => hn (by rw [e]))⟩ (.inr fun e => ?_)) hB
 have := (h.block _ e).1
 omega
theorem only_set {w w1 : World} {g r : Nat} {cs : Array Value} (h : Only w w1 g) (hr : r = w.heap.size) : Only w (w1.setRow r cs) g := by
 have hS := only_setRow w1 r cs
 exact ⟨hS.os.trans h.os, hS.tape.trans h.tape, hS.output.trans h.output, Nat.le_trans h.size hS.size, fun k hk hn => (hS.block k (Nat.lt_of_lt_of_le hk h.size) (by omega)).trans (h.block k hk hn)⟩
set_option maxHeartbeats 32000000 in
theorem pread_o (g : Nat) (s : Bool × Text) (w : World) (hr : Rdr w g s.1 s.2) (h8 : numV s ≠ 8) : Calls Tryz.prog 45 #[.pointer (some ⟨g, 0, none⟩)] w fun e w1 => e = .returned (.agg (cmdA (dcX s none 0))) ∧ RS w w1 g (dcS s) := by
 have hgw : g < w.heap.size := heapLt hr.choose_spec.choose_spec.1
 have HC := Lib.hid (RM.start PR.law (Rdr.on hr (below_alloc w (.cells zeroCmd 28))) (Nat.lt_of_lt_of_le hgw (below_alloc w (.cells zeroCmd 28)).size))
 have HZ := Lib.hid (heap_alloc_new w (.cells zeroCmd 28))
 have HP : Hid (Only w (w.alloc (.cells zeroCmd 28)) g) := Lib.hid (Only.of_below (below_alloc w (.cells zeroCmd 28)))
 have HG : Hid (g < w.heap.size ∧ w.heap.size < (w.alloc (.cells zeroCmd 28)).heap.size) := Lib.hid ⟨hgw, by simp⟩
 have hmf : ∀ (fn : Fn) (first cap : Array Value) (w : World), (Instr.makeFunc fn first cap).run Tryz.prog w = .ok (.func fn first cap) w := fun _ _ _ _ => rfl
 clear hr hgw
 go_enter Tryz.func45, Tryz.ntmps45
 go_upto_region 2 with fail
 generalize World.alloc w _ = w0 at HC HZ HP HG ⊢
 rcases rd_cases (numV s) with hk | hk | hk | hk | hk | hk | hk | hk | hk | hk | hk | hk
 rotate_left 7
 · exact absurd hk h8
 rotate_left 3
 obtain ⟨kk, hkk⟩ : ∃ kk, numV s = kk := ⟨_, rfl⟩
 have e1 : (kk == 1) = false := beq_false_of_ne (by omega)
 have e2 : (kk == 2) = false := beq_false_of_ne (by omega)
 have e3 : (kk == 3) = false := beq_false_of_ne (by omega)
 have e4 : (kk == 4) = false := beq_false_of_ne (by omega)
 have e5 : (kk == 5) = false := beq_false_of_ne (by omega)
 have e6 : (kk == 6) = false := beq_false_of_ne (by omega)
 have e7 : (kk == 7) = false := beq_false_of_ne (by omega)
 have e8 : (kk == 8) = false := beq_false_of_ne (by omega)
 have e9 : (kk == 9) = false := beq_false_of_ne (by omega)
 have e10 : (kk == 10) = false := beq_false_of_ne (by omega)
 have e11 : (kk == 11) = false := beq_false_of_ne (by omega)
 have HKK := Lib.hid hkk
 clear hkk
 have hq := Lib.hid hk
 clear hk
 have hk := hq
 all_goals (
  have HN0 := HC.out.pnum
  first | rw [hk] at HN0 | rw [HKK.out] at HN0
  have HNN := Lib.hid HN0
  clear HN0
  go_wp2_with (go_at_call 73; refine HNN.out.mono ?_; rintro e w1 ⟨rfl, hs⟩; have HC1 := Lib.hid hs; clear hs HC HNN; refine Stop.out ?_)
  unfold Stop
  have HC := Lib.hid (HC1.out.alloc zeroCmd 28)
  have HLt := Lib.hid HC1.out.gl
  have HO1 : Hid (∀ k : Int, (kindC k).all (·.oneCell') = true) := Lib.hid (fun k => by simp [kindC, Value.oneCell'])
  clear HC1
  go_wp2_with ((with_reducible apply RM.storeAll HC.out (cs := kindC _)); (case ho => rfl); (case hgd => rfl); (case hx => rfl); (case hy => rfl); (case hsz => exact cells_info'); (case h0 => rfl); (case h1 => exact HO1.out _); intro wn hs; (have HN := Lib.hid hs); clear hs HC; (have HC := HN); clear HN; refine Stop.out ?_)
  unfold Stop
  have y0 := HC.out.kind
  generalize Value.agg #[.int .i64 _, .string ⟨#[]⟩, .string ⟨#[]⟩, .int .i64 0, .int .i64 0, .int .i64 0, .int .i64 0, .int .i64 0, .int .i64 0, .int .i64 0, .int .i64 0, .int .i64 0, .int .i64 0, .string ⟨#[]⟩, .bool false, .bool false, .string ⟨#[]⟩, .int .i64 0, .string ⟨#[]⟩, .string ⟨#[]⟩, .string ⟨#[]⟩, .slice none 0 0] = vk
  repeat (go_wp2_with (first
  | (go_at_call 73; refine (HC.out.pnum).mono ?_; rintro e wn ⟨rfl, hs⟩; (have HN := Lib.hid hs); clear hs HC; (try clear y0); (have HC := HN); clear HN; refine Stop.out ?_)
  | (go_at_call 74; refine (HC.out.ptext).mono ?_; rintro e wn ⟨rfl, hs⟩; (have HN := Lib.hid hs); clear hs HC; (try clear y0); (have HC := HN); clear HN; refine Stop.out ?_)
  | (go_at_call 75; refine (code_year _ _).mono ?_; rintro e wn ⟨rfl, hb⟩; (have HN := Lib.hid (HC.out.on hb)); clear hb HC; (try clear y0); (have HC := HN); clear HN; refine Stop.out ?_)
  | ((with_reducible apply RM.storeI HC.out); (case ho => rfl); (case hy => rfl); (case hgd => rfl); (case hx => rfl); (case hsz => kernel_rfl); (case hi => kernel_rfl); intro wn hs; (have HN := Lib.hid hs); clear hs HC; (have HC := HN); clear HN; refine Stop.out ?_)
  | ((with_reducible apply RM.storeS HC.out); (case ho => rfl); (case hy => rfl); (case hgd => rfl); (case hx => rfl); (case hsz => kernel_rfl); (case hi => kernel_rfl); intro wn hs; (have HN := Lib.hid hs); clear hs HC; (have HC := HN); clear HN; refine Stop.out ?_)
  | ((with_reducible apply RM.storeB HC.out); (case ho => rfl); (case hy => rfl); (case hgd => rfl); (case hx => rfl); (case hsz => kernel_rfl); (case hi => kernel_rfl); intro wn hs; (have HN := Lib.hid hs); clear hs HC; (have HC := HN); clear HN; refine Stop.out ?_)
  | ((with_reducible apply RM.storeA HC.out); (case ho => rfl); (case hy => rfl); (case hgd => rfl); (case hx => rfl); (case hn => rfl); (case hsz => kernel_rfl); (case h1 => rfl); (case hi => kernel_rfl); intro wn hs; (have HN := Lib.hid hs); clear hs HC; (have HC := HN); clear HN; refine Stop.out ?_)); unfold Stop)
  go_wp2_with ((with_reducible apply RM.load HC.out Tryz.underlying28); (case ho => rfl); (case hgd => rfl); (case hx => rfl); (case hsz => kernel_rfl); refine Stop.out ?_)
  unfold Stop
  try clear y0
  have HZ9 := Lib.hid ((HC.out.at_ w.heap.size (HG.out.2) (Nat.ne_of_gt HG.out.1)).trans HZ.out)
  go_wp2_with ((with_reducible apply wpList_store_row (ty := 28) (g := w.heap.size) (t := 28) (old := zeroCmd) (hg := HZ9.out)); (case hgd => rfl); (case ho => rfl); (case hx => rfl); (case hy => rfl); (case hi => kernel_rfl); (case hold => rfl); (case h1 => simp [putAt, kindC, docC, Value.oneCell']); refine Stop.out ?_)
  unfold Stop
  have HP9 := Lib.hid (HC.out.stored HZ9.out)
  go_wp2
  exact bodyPost_ret (v := .agg _) (results_cell_row Tryz.results45 _ _ w.heap.size 28 _ (0, 0) _ rfl HP9.out Tryz.underlying28 rfl (by kernel_rfl)) rfl ⟨congrArg (fun z => Ending.returned (Value.agg z)) (by (first | (rw [dcX_1 hk]) | (rw [dcX_2 hk]) | (rw [dcX_3 hk]) | (rw [dcX_4 hk]) | (rw [dcX_5 hk]) | (rw [dcX_6 hk]) | (rw [dcX_7 hk]) | (rw [dcX_9 hk]) | (rw [dcX_10 hk]) | (rw [dcX_11 hk]) | (rw [dcX_0 hk.out])); first | rfl | (unfold dcX0; rw [HKK.out]; rfl)), ⟨by (first | (rw [dcS_1 hk]) | (rw [dcS_2 hk]) | (rw [dcS_3 hk]) | (rw [dcS_4 hk]) | (rw [dcS_5 hk]) | (rw [dcS_6 hk]) | (rw [dcS_7 hk]) | (rw [dcS_9 hk]) | (rw [dcS_10 hk]) | (rw [dcS_11 hk]) | (rw [dcS_0 hk.out])); exact PR.far HC.out.rs (only_setRow _ w.heap.size _) HG.out.1, only_set (HP.out.trans HC.out.only) rfl, HG.out.1⟩⟩)
set_option maxHeartbeats 16000000 in
theorem pread_8 (g : Nat) (s : Bool × Text) (w : World) (hr : Rdr w g s.1 s.2) (hk : numV s = 8) : Calls Tryz.prog 45 #[.pointer (some ⟨g, 0, none⟩)] w fun e w1 => ∃ A c, e = .returned (.agg (cmdA (dcX8 s A c))) ∧ OwnLineV w1 w.heap.size (.slice A (docR (numS s)).2.1.length c) (docR (numS s)).2.1 ∧ RS w w1 g (dcS8 s) := by
 have hgw : g < w.heap.size := heapLt hr.choose_spec.choose_spec.1
 have HC := Lib.hid (RM.start PR.law (Rdr.on hr (below_alloc w (.cells zeroCmd 28))) (Nat.lt_of_lt_of_le hgw (below_alloc w (.cells zeroCmd 28)).size))
 have HZ := Lib.hid (heap_alloc_new w (.cells zeroCmd 28))
 have HP : Hid (Only w (w.alloc (.cells zeroCmd 28)) g) := Lib.hid (Only.of_below (below_alloc w (.cells zeroCmd 28)))
 have HG : Hid (g < w.heap.size ∧ w.heap.size < (w.alloc (.cells zeroCmd 28)).heap.size) := Lib.hid ⟨hgw, by simp⟩
 have hmf : ∀ (fn : Fn) (first cap : Array Value) (w : World), (Instr.makeFunc fn first cap).run Tryz.prog w = .ok (.func fn first cap) w := fun _ _ _ _ => rfl
 clear hr hgw
 go_enter Tryz.func45, Tryz.ntmps45
 go_upto_region 2 with fail
 generalize World.alloc w _ = w0 at HC HZ HP HG ⊢
 have HN0 := HC.out.pnum
 first | rw [hk] at HN0 | rw [HKK.out] at HN0
 have HNN := Lib.hid HN0
 clear HN0
 go_wp2_with (go_at_call 73; refine HNN.out.mono ?_; rintro e w1 ⟨rfl, hs⟩; have HC1 := Lib.hid hs; clear hs HC HNN; refine Stop.out ?_)
 unfold Stop
 have HC := Lib.hid (HC1.out.alloc zeroCmd 28)
 have HLt := Lib.hid HC1.out.gl
 have HO1 : Hid (∀ k : Int, (kindC k).all (·.oneCell') = true) := Lib.hid (fun k => by simp [kindC, Value.oneCell'])
 clear HC1
 go_wp2_with ((with_reducible apply RM.storeAll HC.out (cs := kindC _)); (case ho => rfl); (case hgd => rfl); (case hx => rfl); (case hy => rfl); (case hsz => exact cells_info'); (case h0 => rfl); (case h1 => exact HO1.out _); intro wn hs; (have HN := Lib.hid hs); clear hs HC; (have HC := HN); clear HN; refine Stop.out ?_)
 unfold Stop
 have y0 := HC.out.kind
 generalize Value.agg #[.int .i64 _, .string ⟨#[]⟩, .string ⟨#[]⟩, .int .i64 0, .int .i64 0, .int .i64 0, .int .i64 0, .int .i64 0, .int .i64 0, .int .i64 0, .int .i64 0, .int .i64 0, .int .i64 0, .string ⟨#[]⟩, .bool false, .bool false, .string ⟨#[]⟩, .int .i64 0, .string ⟨#[]⟩, .string ⟨#[]⟩, .string ⟨#[]⟩, .slice none 0 0] = vk
 go_wp2_with (go_at_call 76; refine (read_doc _ _ _ HC.out.rs).mono ?_; rintro e wn ⟨A, c, rfl, hown, hrs⟩; (have HN := Lib.hid (HC.out.doc hrs.1 hrs.2.1 hown)); clear hown hrs HC; (have HC := HN); clear HN; refine Stop.out ?_)
 unfold Stop
 repeat (go_wp2_with (first
  | (go_at_call 73; refine (HC.out.pnum).mono ?_; rintro e wn ⟨rfl, hs⟩; (have HN := Lib.hid hs); clear hs HC; (try clear y0); (have HC := HN); clear HN; refine Stop.out ?_)
  | (go_at_call 74; refine (HC.out.ptext).mono ?_; rintro e wn ⟨rfl, hs⟩; (have HN := Lib.hid hs); clear hs HC; (try clear y0); (have HC := HN); clear HN; refine Stop.out ?_)
  | (go_at_call 75; refine (code_year _ _).mono ?_; rintro e wn ⟨rfl, hb⟩; (have HN := Lib.hid (HC.out.on hb)); clear hb HC; (try clear y0); (have HC := HN); clear HN; refine Stop.out ?_)
  | ((with_reducible apply RM.storeI HC.out); (case ho => rfl); (case hy => rfl); (case hgd => rfl); (case hx => rfl); (case hsz => kernel_rfl); (case hi => kernel_rfl); intro wn hs; (have HN := Lib.hid hs); clear hs HC; (have HC := HN); clear HN; refine Stop.out ?_)
  | ((with_reducible apply RM.storeS HC.out); (case ho => rfl); (case hy => rfl); (case hgd => rfl); (case hx => rfl); (case hsz => kernel_rfl); (case hi => kernel_rfl); intro wn hs; (have HN := Lib.hid hs); clear hs HC; (have HC := HN); clear HN; refine Stop.out ?_)
  | ((with_reducible apply RM.storeB HC.out); (case ho => rfl); (case hy => rfl); (case hgd => rfl); (case hx => rfl); (case hsz => kernel_rfl); (case hi => kernel_rfl); intro wn hs; (have HN := Lib.hid hs); clear hs HC; (have HC := HN); clear HN; refine Stop.out ?_)
  | ((with_reducible apply RM.storeA HC.out); (case ho => rfl); (case hy => rfl); (case hgd => rfl); (case hx => rfl); (case hn => rfl); (case hsz => kernel_rfl); (case h1 => rfl); (case hi => kernel_rfl); intro wn hs; (have HN := Lib.hid hs); clear hs HC; (have HC := HN); clear HN; refine Stop.out ?_)); unfold Stop)
 go_wp2_with ((with_reducible apply RM.load HC.out Tryz.underlying28); (case ho => rfl); (case hgd => rfl); (case hx => rfl); (case hsz => kernel_rfl); refine Stop.out ?_)
 unfold Stop
 try clear y0
 have HZ9 := Lib.hid ((HC.out.at_ w.heap.size (HG.out.2) (Nat.ne_of_gt HG.out.1)).trans HZ.out)
 go_wp2_with ((with_reducible apply wpList_store_row (ty := 28) (g := w.heap.size) (t := 28) (old := zeroCmd) (hg := HZ9.out)); (case hgd => rfl); (case ho => rfl); (case hx => rfl); (case hy => rfl); (case hi => kernel_rfl); (case hold => rfl); (case h1 => simp [putAt, kindC, docC, Value.oneCell']); refine Stop.out ?_)
 unfold Stop
 have HP9 := Lib.hid (HC.out.stored HZ9.out)
 go_wp2
 exact bodyPost_ret (v := .agg _) (results_cell_row Tryz.results45 _ _ w.heap.size 28 _ (0, 0) _ rfl HP9.out Tryz.underlying28 rfl (by kernel_rfl)) rfl ⟨A, c, rfl, own_set HC.out.own HG.out.2 (Nat.le_of_lt HG.out.2), ⟨PR.far HC.out.rs (only_setRow _ w.heap.size _) HG.out.1, only_set (HP.out.trans HC.out.only) rfl, HG.out.1⟩⟩
theorem pread_any (g : Nat) (s : Bool × Text) (w : World) (hr : Rdr w g s.1 s.2) : Calls Tryz.prog 45 #[.pointer (some ⟨g, 0, none⟩)] w fun e w1 => ∃ A c, e = .returned (.agg (cmdA (dcX s A c))) ∧ OwnLineV w1 w.heap.size (.slice A (dcX s none 0).lines.length c) (dcX s none 0).lines ∧ RS w w1 g (dcS s) := by
 by_cases hk : numV s = 8
 · refine (pread_8 g s w hr hk).mono fun e w1 h => ?_
   obtain ⟨A, c, he, ho, hs⟩ := h
   refine ⟨A, c, by rw [dcX_8 hk]; exact he, ?_, by rw [dcS_8 hk]; exact hs⟩
   rw [dcX_8 hk]
   exact ho
 · refine (pread_o g s w hr hk).mono fun e w1 h => ⟨none, 0, h.1, ?_, h.2⟩
   rw [dcX_none hk]
   exact World.ownsRow_nil _ _ _ 9
end Go.Proofs.YtmjjenemokojjaaGreat
