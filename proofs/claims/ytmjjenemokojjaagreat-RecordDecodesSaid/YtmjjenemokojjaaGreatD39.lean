/- What stands in bytes, as the document reads it: the kinds of a few fields. -/
import Derived.Test.YtmjjenemokojjaaGreatD31
import Derived.WalkMore
import Derived.Laws.Rows
import Derived.Laws.Tables
import Derived.Laws.CopyRow
namespace Go.Proofs.YtmjjenemokojjaaGreat
open Go.RowKit Go.ChangeShapes
set_option maxRecDepth 100000
set_option linter.unusedSimpArgs false
set_option linter.unusedVariables false

theorem DR.first {w : World} {g : Nat} {A : Option Addr} {T : Text} {c : Nat} (hh : w.heap[g]? = some (.cells #[.slice A T.length c, .int .i64 0, .bool false] 101 (0, 0))) (hl : T.length ≤ 20000) (hc : T.length ≤ c) (hm : c ≤ maxLen) (hT : Txt w A T) (hA : A = none → T = []) (hn : T ≠ [] → ∀ a, A = some a → a.block < g) : DR w g (false, T) :=
 ⟨A, T, c, 0, ⟨hh, Nat.zero_le _, hl, hc, hm, hT, hA, fun h a e => Nat.ne_of_lt (hn h a e)⟩, by simp [dv], hn⟩
set_option maxHeartbeats 32000000 in
theorem dread_o (T : Text) (A0 : Option Addr) (cap : Nat) (w : World) (hT : Txt w A0 T) (hA : A0 = none → T = []) (hl : T.length ≤ 20000) (hc : T.length ≤ cap) (hm : cap ≤ maxLen) (h8 : numV (false, T) ≠ 8) : Calls Tryz.prog 48 #[.slice A0 T.length cap] w fun e w1 => e = .returned (.agg (cmdA (dcX (false, T) none 0))) ∧ Below w.heap.size w w1 := by
 have h2 := heap_alloc_new (w.alloc (.cells zeroCmd 28)) (.cells #[.slice A0 T.length cap, .int .i64 0, .bool false] 101)
 simp only [World.size_alloc] at h2
 have HB := Lib.hid (show Below w.heap.size w ((w.alloc (.cells zeroCmd 28)).alloc (.cells #[.slice A0 T.length cap, .int .i64 0, .bool false] 101)) from below_more (below_alloc _ _))
 have HZ := Lib.hid (heap_on (below_alloc (w.alloc (.cells zeroCmd 28)) (.cells #[.slice A0 T.length cap, .int .i64 0, .bool false] 101)) (heap_alloc_new w (.cells zeroCmd 28)))
 have HC := Lib.hid (RM.start DR.law (DR.first h2 hl hc hm (hT.below HB.out) hA (fun hn a e => by obtain ⟨a', e', hb, _⟩ := hT hn; rw [e] at e'; injection e' with e'; subst e'; omega)) (heapLt h2))
 clear h2 hT hA hl hc hm
 go_enter Tryz.func48, Tryz.ntmps48
 go_upto_region 2 with fail
 generalize hx : World.alloc (World.alloc w _) _ = w0 at HC HZ HB ⊢
 clear hx
 rcases rd_cases (numV (false, T)) with hk | hk | hk | hk | hk | hk | hk | hk | hk | hk | hk | hk
 rotate_left 7
 · exact absurd hk h8
 rotate_left 3
 obtain ⟨kk, hkk⟩ : ∃ kk, numV (false, T) = kk := ⟨_, rfl⟩
 have e1 : (kk == 1) = false := beq_false_of_ne (by omega)
 have e2 : (kk == 2) = false := beq_false_of_ne (by omega)
 have e3 : (kk == 3) = false := beq_false_of_ne (by omega)
 have e4 : (kk == 4) = false := beq_false_of_ne (by omega)
 have e5 : (kk == 5) = false := beq_false_of_ne (by omega)
 have e6 : (kk == 6) = false := beq_false_of_ne (by omega)
 have e7 : (kk == 7) = false := beq_false_of_ne (by omega)
 have e8 : (kk == 8) = false := beq_false_of_ne (by omega)
 have e9 : (kk == 9) = false := beq_false_of_ne (by omega)
 have e10 : (kk == 10) = false := beq_false_of_ne (by omega)
 have e11 : (kk == 11) = false := beq_false_of_ne (by omega)
 have HKK := Lib.hid hkk
 clear hkk
 have hq := Lib.hid hk
 clear hk
 have hk := hq
 all_goals (
  have HN0 := HC.out.dnum
  first | rw [hk] at HN0 | rw [HKK.out] at HN0
  have HNN := Lib.hid HN0
  clear HN0
  go_wp2_with (go_at_call 77; refine HNN.out.mono ?_; rintro e w1 ⟨rfl, hs⟩; have HC1 := Lib.hid hs; clear hs HC HNN; refine Stop.out ?_)
  unfold Stop
  have HC := Lib.hid (HC1.out.alloc zeroCmd 28)
  have HLt := Lib.hid HC1.out.gl
  have HO1 : Hid (∀ k : Int, (kindC k).all (·.oneCell') = true) := Lib.hid (fun k => by simp [kindC, Value.oneCell'])
  clear HC1
  go_wp2_with ((with_reducible apply RM.storeAll HC.out (cs := kindC _)); (case ho => rfl); (case hgd => rfl); (case hx => rfl); (case hy => rfl); (case hsz => exact cells_info'); (case h0 => rfl); (case h1 => exact HO1.out _); intro wn hs; (have HN := Lib.hid hs); clear hs HC; (have HC := HN); clear HN; refine Stop.out ?_)
  unfold Stop
  have y0 := HC.out.kind
  generalize Value.agg #[.int .i64 _, .string ⟨#[]⟩, .string ⟨#[]⟩, .int .i64 0, .int .i64 0, .int .i64 0, .int .i64 0, .int .i64 0, .int .i64 0, .int .i64 0, .int .i64 0, .int .i64 0, .int .i64 0, .string ⟨#[]⟩, .bool false, .bool false, .string ⟨#[]⟩, .int .i64 0, .string ⟨#[]⟩, .string ⟨#[]⟩, .string ⟨#[]⟩, .slice none 0 0] = vk
  repeat (go_wp2_with (first
   | (go_at_call 77; refine (HC.out.dnum).mono ?_; rintro e wn ⟨rfl, hs⟩; (have HN := Lib.hid hs); clear hs HC; (try clear y0); (have HC := HN); clear HN; refine Stop.out ?_)
   | (go_at_call 78; refine (HC.out.dtext).mono ?_; rintro e wn ⟨rfl, hs⟩; (have HN := Lib.hid hs); clear hs HC; (try clear y0); (have HC := HN); clear HN; refine Stop.out ?_)
   | (go_at_call 102; refine (HC.out.dflag).mono ?_; rintro e wn ⟨rfl, hs⟩; (have HN := Lib.hid hs); clear hs HC; (try clear y0); (have HC := HN); clear HN; refine Stop.out ?_)
   | ((with_reducible apply RM.storeI HC.out); (case ho => rfl); (case hy => rfl); (case hgd => rfl); (case hx => rfl); (case hsz => kernel_rfl); (case hi => kernel_rfl); intro wn hs; (have HN := Lib.hid hs); clear hs HC; (have HC := HN); clear HN; refine Stop.out ?_)
   | ((with_reducible apply RM.storeS HC.out); (case ho => rfl); (case hy => rfl); (case hgd => rfl); (case hx => rfl); (case hsz => kernel_rfl); (case hi => kernel_rfl); intro wn hs; (have HN := Lib.hid hs); clear hs HC; (have HC := HN); clear HN; refine Stop.out ?_)
   | ((with_reducible apply RM.storeB HC.out); (case ho => rfl); (case hy => rfl); (case hgd => rfl); (case hx => rfl); (case hsz => kernel_rfl); (case hi => kernel_rfl); intro wn hs; (have HN := Lib.hid hs); clear hs HC; (have HC := HN); clear HN; refine Stop.out ?_)
   | ((with_reducible apply RM.storeA HC.out); (case ho => rfl); (case hy => rfl); (case hgd => rfl); (case hx => rfl); (case hn => rfl); (case hsz => kernel_rfl); (case h1 => rfl); (case hi => kernel_rfl); intro wn hs; (have HN := Lib.hid hs); clear hs HC; (have HC := HN); clear HN; refine Stop.out ?_)); unfold Stop)
  go_wp2_with ((with_reducible apply RM.load HC.out Tryz.underlying28); (case ho => rfl); (case hgd => rfl); (case hx => rfl); (case hsz => kernel_rfl); refine Stop.out ?_)
  unfold Stop
  try clear y0
  have HZ9 := Lib.hid ((HC.out.at_ w.heap.size (by have := HLt.out; omega) (by omega)).trans HZ.out)
  go_wp2_with ((with_reducible apply wpList_store_row (ty := 28) (g := w.heap.size) (t := 28) (old := zeroCmd) (hg := HZ9.out)); (case hgd => rfl); (case ho => rfl); (case hx => rfl); (case hy => rfl); (case hi => kernel_rfl); (case hold => rfl); (case h1 => simp [putAt, kindC, docC, Value.oneCell']); refine Stop.out ?_)
  unfold Stop
  have HP9 := Lib.hid (HC.out.stored HZ9.out)
  go_wp2
  exact bodyPost_ret (v := .agg _) (results_cell_row Tryz.results48 _ _ w.heap.size 28 _ (0, 0) _ rfl HP9.out Tryz.underlying28 rfl (by kernel_rfl)) rfl ⟨congrArg (fun z => Ending.returned (Value.agg z)) (by (first | (rw [dcX_1 hk]) | (rw [dcX_2 hk]) | (rw [dcX_3 hk]) | (rw [dcX_4 hk]) | (rw [dcX_5 hk]) | (rw [dcX_6 hk]) | (rw [dcX_7 hk]) | (rw [dcX_9 hk]) | (rw [dcX_10 hk]) | (rw [dcX_11 hk]) | (rw [dcX_0 hk.out])); first | rfl | (unfold dcX0; rw [HKK.out]; rfl)), below_setRow (HB.out.trans ((HC.out.below (by omega)))) (Nat.le_refl _) _⟩)

end Go.Proofs.YtmjjenemokojjaaGreat
