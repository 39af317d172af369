/- A command, read, by its kind (8). Decode, by what it calls. What is encoded is decoded. -/
import Derived.Test.YtplghpamckdklaaGreatE40
import Derived.Test.YtplghpamckdklaaGreatE42
import Derived.Deep.Cut
import Derived.Deep.DeepCutAuto
import Derived.Laws.CopyOwn
import Derived.Test.YtplghpamckdklaaGreatE25
import Derived.Laws.ResultCell
import Derived.Test.YtplghpamckdklaaGreatE39
import Derived.Test.YtplghpamckdklaaGreatE41
import Derived.Test.YtplghpamckdklaaGreatE35
import Derived.WalkMore
namespace Go.Proofs.YtplghpamckdklaaGreat
open Go.RowKit Go.ChangeShapes
set_option maxRecDepth 100000
set_option linter.unusedSimpArgs false
set_option linter.unusedVariables false

set_option maxHeartbeats 4000000 in
theorem read_8 (g : Nat) (s : Bool × Text) (w : World) (hr : Rdr w g s.1 s.2) (hk : numV s = 8) : Calls Tryz.prog 45 #[.pointer (some ⟨g, 0, none⟩)] w fun e w1 => ∃ A c, e = .returned (.agg (putAll (kindC 8) [(13, [.string ((docR (numS s)).1.1), .bool ((docR (numS s)).1.2.1), .bool ((docR (numS s)).1.2.2.1), .string ((docR (numS s)).1.2.2.2.1), .int .i64 ((docR (numS s)).1.2.2.2.2.1), .string ((docR (numS s)).1.2.2.2.2.2.1), .string ((docR (numS s)).1.2.2.2.2.2.2.1), .string ((docR (numS s)).1.2.2.2.2.2.2.2), .slice A (docR (numS s)).2.1.length c])])) ∧ OwnLineV w1 w.heap.size (.slice A (docR (numS s)).2.1.length c) (docR (numS s)).2.1 ∧ RS w w1 g (docR (numS s)).2.2 := by
 have HS0 := Lib.hid (RS.start (hr.on (below_alloc w (.cells zeroCmd 28))))
 have HZ0 := Lib.hid (heap_alloc_new w (.cells zeroCmd 28))
 have hgw : g < w.heap.size := heapLt hr.choose_spec.choose_spec.1
 have HP : Hid (∀ w1 s1, RS (w.alloc (.cells zeroCmd 28)) w1 g s1 → RS w w1 g s1) := Lib.hid (fun w1 s1 h => ⟨h.1, (Only.of_below (below_alloc w (.cells zeroCmd 28))).trans h.2.1, hgw⟩)
 have HG : Hid (g < w.heap.size ∧ w.heap.size < (w.alloc (.cells zeroCmd 28)).heap.size) := Lib.hid ⟨hgw, by simp⟩
 have HK := Lib.hid hk
 have hmf : ∀ (fn : Fn) (first cap : Array Value) (w : World), (Instr.makeFunc fn first cap).run Tryz.prog w = .ok (.func fn first cap) w := fun _ _ _ _ => rfl
 clear hr hgw hk
 go_enter Tryz.func45, Tryz.ntmps45
 go_upto_region 2 with fail
 generalize World.alloc w _ = w0 at HS0 HZ0 HP HG ⊢
 have HZ : Hid (w0.heap[w.heap.size]? = some (.cells zeroCmd 28 (0, 0))) := HZ0
 clear HZ0
 have HN : Hid (Calls Tryz.prog 73 #[.pointer (some ⟨g, 0, none⟩)] w0 fun e w1 => e = .returned (.int .i64 8) ∧ RS w0 w1 g (numS s)) := Lib.hid (HS0.out.num.mono fun e w1 h => ⟨by rw [← HK.out]; exact h.1, h.2.1⟩)
 go_wp2_with (go_at_call 73; refine HN.out.mono ?_; rintro e w1 ⟨rfl, hs⟩; have HR := Lib.hid hs; clear hs; refine Stop.out ?_)
 unfold Stop
 have HA := Lib.hid (heap_alloc_new w1 (.cells zeroCmd 28))
 have HC := Lib.hid ((RC.start (cs := zeroCmd) HR.out).put #[.int .i64 8, .string ⟨#[]⟩, .string ⟨#[]⟩, .int .i64 0, .int .i64 0, .int .i64 0, .int .i64 0, .int .i64 0, .int .i64 0, .int .i64 0, .int .i64 0, .int .i64 0, .int .i64 0, .string ⟨#[]⟩, .bool false, .bool false, .string ⟨#[]⟩, .int .i64 0, .string ⟨#[]⟩, .string ⟨#[]⟩, .string ⟨#[]⟩, .slice none 0 0])
 have HO1 : Hid ((#[.int .i64 8, .string ⟨#[]⟩, .string ⟨#[]⟩, .int .i64 0, .int .i64 0, .int .i64 0, .int .i64 0, .int .i64 0, .int .i64 0, .int .i64 0, .int .i64 0, .int .i64 0, .int .i64 0, .string ⟨#[]⟩, .bool false, .bool false, .string ⟨#[]⟩, .int .i64 0, .string ⟨#[]⟩, .string ⟨#[]⟩, .string ⟨#[]⟩, .slice none 0 0] : Array Value).all (·.oneCell') = true) := Lib.hid (by simp [Value.oneCell'])
 go_wp2_with ((with_reducible refine wpList_store_row (o := ⟨none, _, _, _, _, _⟩) ?b1 28 (.tmp 5) (.tmp 12) ?b2 w1.heap.size #[.int .i64 8, .string ⟨#[]⟩, .string ⟨#[]⟩, .int .i64 0, .int .i64 0, .int .i64 0, .int .i64 0, .int .i64 0, .int .i64 0, .int .i64 0, .int .i64 0, .int .i64 0, .int .i64 0, .string ⟨#[]⟩, .bool false, .bool false, .string ⟨#[]⟩, .int .i64 0, .string ⟨#[]⟩, .string ⟨#[]⟩, .string ⟨#[]⟩, .slice none 0 0] ?b3 ?b4 28 zeroCmd HA.out ?b5 ?b6 ?b7 ?_); (case b1 => rfl); (case b2 => rfl); (case b3 => rfl); (case b4 => rfl); (case b5 => exact cells_info'); (case b6 => rfl); (case b7 => exact HO1.out); refine Stop.out ?_)
 unfold Stop
 generalize World.setRow _ _ _ = w2 at HC ⊢
 generalize w1.heap.size = bb at HC ⊢
 generalize Value.agg #[.int .i64 8, .string ⟨#[]⟩, .string ⟨#[]⟩, .int .i64 0, .int .i64 0, .int .i64 0, .int .i64 0, .int .i64 0, .int .i64 0, .int .i64 0, .int .i64 0, .int .i64 0, .int .i64 0, .string ⟨#[]⟩, .bool false, .bool false, .string ⟨#[]⟩, .int .i64 0, .string ⟨#[]⟩, .string ⟨#[]⟩, .string ⟨#[]⟩, .slice none 0 0] = vk
 clear HA HO1
 have HC1 : Hid (RC w0 w2 g (numS s) bb (kindC 8)) := HC
 clear HC
 have HC := HC1
 clear HC1
 have y0 := HC.out.at0
 have HSZ : Hid ((kindC 8).size = 22) := Lib.hid (kindC_size _)
 generalize hcs : kindC 8 = cs0 at HC HSZ
 have HCS : Hid (kindC 8 = cs0) := Lib.hid hcs
 clear hcs HR HN HS0
 have HB2 : Hid (w0.heap.size ≤ w2.heap.size) := Lib.hid HC.out.rs.2.1.size
 have HDf := Lib.hid (read_doc g (numS s) w2 HC.out.rs.1)
 go_wp2_with (go_at_call 76; refine HDf.out.mono ?_; rintro e w3 ⟨A, c, rfl, how, hrs⟩; have HOW := Lib.hid how; have HR1 := Lib.hid (HC.out.read ⟨hrs.1, HC.out.rs.2.1.trans hrs.2.1, HC.out.rs.2.2⟩ hrs.2.1); clear how hrs; clear y0; refine Stop.out ?_)
 unfold Stop
 have HFar := Lib.hid (heapLt HC.out.box)
 clear HC HDf
 go_wp2_with ((with_reducible refine wpList_store_part (o := ⟨none, _, _, _, _, _⟩) ?a0 26 (.tmp 99) (.tmp 98) ?a1 bb 13 ?a2 (.agg (docC (docR (numS s)).1 (.slice A (docR (numS s)).2.1.length c))) [.string ((docR (numS s)).1.1), .bool ((docR (numS s)).1.2.1), .bool ((docR (numS s)).1.2.2.1), .string ((docR (numS s)).1.2.2.2.1), .int .i64 ((docR (numS s)).1.2.2.2.2.1), .string ((docR (numS s)).1.2.2.2.2.2.1), .string ((docR (numS s)).1.2.2.2.2.2.2.1), .string ((docR (numS s)).1.2.2.2.2.2.2.2), .slice A (docR (numS s)).2.1.length c] 9 ?a3 ?a4 ?a5 ?a6 ?a7 cs0 28 HR1.out.box ?a8 ?_); (case a0 => rfl); (case a1 => rfl); (case a2 => rfl); (case a3 => kernel_rfl); (case a4 => rfl); (case a5 => rfl); (case a6 => intro u hu; simp only [List.mem_cons, List.not_mem_nil, or_false] at hu; rcases hu with rfl | rfl | rfl | rfl | rfl | rfl | rfl | rfl | rfl <;> rfl); (case a7 => rfl); (case a8 => have := HSZ.out; simp; omega); refine Stop.out ?_)
 unfold Stop
 have HR2 := Lib.hid (HR1.out.put (putAt cs0 13 [.string ((docR (numS s)).1.1), .bool ((docR (numS s)).1.2.1), .bool ((docR (numS s)).1.2.2.1), .string ((docR (numS s)).1.2.2.2.1), .int .i64 ((docR (numS s)).1.2.2.2.2.1), .string ((docR (numS s)).1.2.2.2.2.2.1), .string ((docR (numS s)).1.2.2.2.2.2.2.1), .string ((docR (numS s)).1.2.2.2.2.2.2.2), .slice A (docR (numS s)).2.1.length c]))
 have HSZn : Hid ((putAt cs0 13 [.string ((docR (numS s)).1.1), .bool ((docR (numS s)).1.2.1), .bool ((docR (numS s)).1.2.2.1), .string ((docR (numS s)).1.2.2.2.1), .int .i64 ((docR (numS s)).1.2.2.2.2.1), .string ((docR (numS s)).1.2.2.2.2.2.1), .string ((docR (numS s)).1.2.2.2.2.2.2.1), .string ((docR (numS s)).1.2.2.2.2.2.2.2), .slice A (docR (numS s)).2.1.length c]).size = 22) := Lib.hid ((putAt_size (by have := HSZ.out; simp; omega)).trans HSZ.out)
 clear HSZ
 have HSZ := HSZn
 clear HSZn
 have HOWn := Lib.hid (show OwnLineV (World.setRow _ bb (putAt cs0 13 [.string ((docR (numS s)).1.1), .bool ((docR (numS s)).1.2.1), .bool ((docR (numS s)).1.2.2.1), .string ((docR (numS s)).1.2.2.2.1), .int .i64 ((docR (numS s)).1.2.2.2.2.1), .string ((docR (numS s)).1.2.2.2.2.2.1), .string ((docR (numS s)).1.2.2.2.2.2.2.1), .string ((docR (numS s)).1.2.2.2.2.2.2.2), .slice A (docR (numS s)).2.1.length c])) w2.heap.size _ _ from World.ownsRow.kept (row := some bb) HOW.out ⟨rfl, rfl, rfl, by simp [World.setRow], fun k _ hk => setRow_other _ _ k _ (fun e => hk (by rw [e]))⟩ (.inr fun e => by have := (HOW.out.block _ e).1; have := HFar.out; omega))
 clear HOW
 have HOW := HOWn
 clear HOWn
 generalize World.setRow _ _ _ = w4 at HR2 HOW ⊢
 generalize hcs : putAt cs0 13 [.string ((docR (numS s)).1.1), .bool ((docR (numS s)).1.2.1), .bool ((docR (numS s)).1.2.2.1), .string ((docR (numS s)).1.2.2.2.1), .int .i64 ((docR (numS s)).1.2.2.2.2.1), .string ((docR (numS s)).1.2.2.2.2.2.1), .string ((docR (numS s)).1.2.2.2.2.2.2.1), .string ((docR (numS s)).1.2.2.2.2.2.2.2), .slice A (docR (numS s)).2.1.length c] = cs2 at HR2 HSZ
 have HCS2 : Hid (putAt cs0 13 [.string ((docR (numS s)).1.1), .bool ((docR (numS s)).1.2.1), .bool ((docR (numS s)).1.2.2.1), .string ((docR (numS s)).1.2.2.2.1), .int .i64 ((docR (numS s)).1.2.2.2.2.1), .string ((docR (numS s)).1.2.2.2.2.2.1), .string ((docR (numS s)).1.2.2.2.2.2.2.1), .string ((docR (numS s)).1.2.2.2.2.2.2.2), .slice A (docR (numS s)).2.1.length c] = cs2) := Lib.hid hcs
 clear hcs HR1
 have HONE : Hid (cs2.all (·.oneCell') = true) := Lib.hid (by rw [← HCS2.out, ← HCS.out]; simp [putAt, kindC, Value.oneCell'])
 have HI := Lib.hid (cmd_info HSZ.out)
 have HX := Lib.hid HR2.out.box
 have HZ9 := Lib.hid ((HR2.out.below w.heap.size HG.out.2 (Nat.ne_of_gt HG.out.1)).trans HZ.out)
 go_wp2_with ((with_reducible refine wpList_load_row (o := ⟨some 112, _, _, _, _, _⟩) ?a1 28 (.tmp 5) ?a2 bb ?a3 28 cs2 (0, 0) _ HX.out Tryz.underlying28 ?a4 HI.out ?_); (case a1 => rfl); (case a2 => rfl); (case a3 => rfl); (case a4 => rfl); refine Stop.out ?_)
 unfold Stop
 go_wp2_with ((with_reducible refine wpList_store_row (o := ⟨none, _, _, _, _, _⟩) ?b1 28 (.tmp 2) (.tmp 112) ?b2 w.heap.size cs2 ?b3 ?b4 28 zeroCmd HZ9.out HI.out ?b5 ?b6 ?_); (case b1 => rfl); (case b2 => rfl); (case b3 => rfl); (case b4 => rfl); (case b5 => exact HSZ.out.symm); (case b6 => exact HONE.out); refine Stop.out ?_)
 unfold Stop
 have HP9 := Lib.hid (setRow_heap _ w.heap.size _ cs2 _ _ HZ9.out)
 go_wp2
 have HE : Hid (cs2 = putAll (kindC 8) [(13, [.string ((docR (numS s)).1.1), .bool ((docR (numS s)).1.2.1), .bool ((docR (numS s)).1.2.2.1), .string ((docR (numS s)).1.2.2.2.1), .int .i64 ((docR (numS s)).1.2.2.2.2.1), .string ((docR (numS s)).1.2.2.2.2.2.1), .string ((docR (numS s)).1.2.2.2.2.2.2.1), .string ((docR (numS s)).1.2.2.2.2.2.2.2), .slice A (docR (numS s)).2.1.length c])]) := Lib.hid (by unfold putAll; rw [← HCS2.out, ← HCS.out]; rfl)
 refine bodyPost_ret (v := .agg cs2) (results_cell_row Tryz.results45 _ _ w.heap.size 28 cs2 (0, 0) _ rfl HP9.out Tryz.underlying28 rfl HI.out) rfl ⟨A, c, by rw [HE.out], ?_, (HP.out _ _ HR2.out.rs).far (only_setRow _ _ _) (Nat.le_refl _)⟩
 exact World.ownsRow.kept (row := some w.heap.size) (OwnLineV.less HOW.out (Nat.le_trans (Nat.le_of_lt HG.out.2) HB2.out)) ⟨rfl, rfl, rfl, by simp [World.setRow], fun k _ hk => setRow_other _ _ k _ (fun e => hk (by rw [e]))⟩ (.inr fun e => by
  have := (HOW.out.block _ e).1
  have := HG.out.2
  have := HB2.out
  omega)
end Go.Proofs.YtplghpamckdklaaGreat

namespace Go.Proofs.YtplghpamckdklaaGreat
open Go.RowKit Go.ChangeShapes
set_option maxRecDepth 100000
set_option linter.unusedSimpArgs false
set_option linter.unusedVariables false

theorem results_row_tmp {P : Program} {fn : Func} {p u : Tmp} {ty : TypeId} (h : fn.results = #[.cell p ty, .tmp u]) (tmps : Array Value) (w : World) (g : Nat) (t : TypeId) (cs : Array Value) (fr : Nat × Nat) (d : TypeDesc)
 (hp : tmps.getD p undef = .pointer (some ⟨g, 0, none⟩)) (v : Value) (hv : tmps.getD u undef = v) (hg : w.heap[g]? = some (.cells cs t fr))
 (hu : P.underlying ty = some d) (hd : (match d with | .struct _ | .array _ _ => true | _ => false) = true) (hi : (P.info? ty).map (·.size) = some cs.size) :
 (results fn tmps).run P w = .ok (.tuple #[.agg cs, v]) w := by
 rw [results_cell_tmp h, hp, hv]
 simp [asAddr, run_loadVar_row w g t ty cs fr d hg hu hd hi, Result.andThen]
theorem zeroCmd_is : zeroCmd = zeroCmd := rfl
theorem wpList_load_rowG {P : Program} {ops : Array Oper} {rest : List Oper} {o : Oper} {a : Act} {w : World} {Q : Exit → Act → World → Prop} (hw : Region.wanted o (yielded ops a.tmps) = true) (ty : TypeId) (x : Operand) (ho : o.op = .load ty x)
 (g : Nat) (hx : a.eval x = .pointer (some ⟨g, 0, none⟩)) (t : TypeId) (cs : Array Value) (fr : Nat × Nat) (d : TypeDesc) (hg : w.heap[g]? = some (.cells cs t fr))
 (hu : P.underlying ty = some d) (hd : (match d with | .struct _ | .array _ _ => true | _ => false) = true) (hi : (P.info? ty).map (·.size) = some cs.size)
 (h : wpList P ops Q rest (a.put o.dst (.agg cs)) w) : wpList P ops Q (o :: rest) a w :=
 wpList_step fun K hK => by rw [if_pos hw]; exact wp_load_row ty x ho g hx t cs fr d hg hu hd hi (hK _ _ h)
def DecNo (w : World) (e : Ending) (w1 : World) : Prop := e = .returned (.tuple #[.agg zeroCmd, .int .i64 10]) ∧ Below w.heap.size w w1
def DecYes (w : World) (cs : Option Addr → Nat → Array Value) (L : List LineV) (e : Ending) (w1 : World) : Prop :=
 ∃ A c, e = .returned (.tuple #[.agg (cs A c), .int .i64 0]) ∧ RowLineV w1 A L ∧ (A = none → L = [] ∧ c = 0) ∧ L.length ≤ c ∧ c ≤ maxLen ∧ Below w.heap.size w w1
theorem row_setRow {w : World} {A : Option Addr} {L : List LineV} {g : Nat} {cs : Array Value} (h : RowLineV w A L) (hA : ∀ a, A = some a → a.block ≠ g) : RowLineV (w.setRow g cs) A L := fun hn => by
 obtain ⟨b, o, e, hl, hr⟩ := h hn
 refine ⟨b, o, e, by simpa [World.setRow] using hl, fun j v hv => ?_⟩
 have hb : b ≠ g := hA _ e
 exact (World.cell?_of_block (a := ⟨b, o + j, none⟩) (setRow_other w g b cs hb)).trans (hr j v hv)
set_option maxHeartbeats 4000000 in
theorem decode_yes (T : Text) (A0 : Option Addr) (cap : Nat) (cs : Option Addr → Nat → Array Value) (L : List LineV) (s1 : Bool × Text) (w : World) (hm : T.length ≤ 140737488351232) (hT : Txt w A0 T) (hA : A0 = none → T = []) (HRd : Hid (∀ (W : World) (g : Nat), Below w.heap.size w W → Rdr W g false T → Calls Tryz.prog 45 #[.pointer (some ⟨g, 0, none⟩)] W fun e w1 => ∃ A c, e = .returned (.agg (cs A c)) ∧ OwnLineV w1 W.heap.size (.slice A L.length c) L ∧ RS W w1 g s1)) (HC : Hid (∀ A c, (cs A c).size = 22 ∧ (cs A c).all (·.oneCell') = true)) (hb : s1 = (false, [])) (HGd : Hid (∀ (W : World) (A : Option Addr) (c : Nat), Below w.heap.size w W → RowLineV W A L → (A = none → L = [] ∧ c = 0) → L.length ≤ c → c ≤ maxLen → Calls Tryz.prog 8 #[.agg (cs A c)] W fun e w1 => e = .returned (.bool true) ∧ Below W.heap.size W w1)) : Calls Tryz.prog 16 #[.slice A0 T.length cap] w fun e w1 => DecYes w cs L e w1 := by
 have HT := Lib.hid (hT.alloc (.cells zeroCmd 28))
 have HZ := Lib.hid (heap_alloc_new w (.cells zeroCmd 28))
 have HB0 := Lib.hid (below_alloc w (.cells zeroCmd 28))
 have HG : Hid (w.heap.size < (w.alloc (.cells zeroCmd 28)).heap.size) := Lib.hid (by simp)
 have HM := Lib.hid (And.intro hm hA)
 have HD : Hid (∀ (W : World) (g : Nat), Rdr W g s1.1 s1.2 → Calls Tryz.prog 46 #[.pointer (some ⟨g, 0, none⟩)] W fun e w' => e = .returned (.int .i64 0) ∧ W = w') := Lib.hid (fun W g h => (code_done W g s1.1 s1.2 h).mono fun e w' q => ⟨by rw [q.1]; rw [hb]; rfl, q.2⟩)
 have HO1 : Hid (zeroCmd.all (·.oneCell') = true) := Lib.hid (by simp [Value.oneCell'])
 clear hm hT hA hb
 go_enter Tryz.func16, Tryz.ntmps16
 go_upto_region 1 with fail
 generalize World.alloc w _ = w0 at HT HZ HB0 HG ⊢
 have HZ' : Hid (w0.heap[w.heap.size]? = some (.cells zeroCmd 28 (0, 0))) := HZ
 clear HZ
 go_wp2_with (go_at_call 44; refine (code_open T A0 cap _ HM.out.1 HT.out HM.out.2).mono ?_; rintro e w1 ⟨g, hg1, hg2, rfl, hr, hb⟩; have HR1 := Lib.hid hr; have HB1 := Lib.hid (below_then HB0.out hb); have HZ1 := Lib.hid (heap_on hb HZ'.out); have HG1 : Hid (w.heap.size < g) := Lib.hid (by have := HG.out; omega); clear hg1 hg2 hr hb; refine Stop.out ?_)
 unfold Stop
 clear HZ' HT HB0
 go_wp2_with (go_at_call 45; refine (HRd.out w1 g HB1.out HR1.out).mono ?_; rintro e w2 ⟨A2, c2, rfl, how, hrs⟩; have HOW := Lib.hid how; have HRS := Lib.hid hrs; have HB2 : Hid (Below w.heap.size w w2) := Lib.hid (HB1.out.trans (hrs.below (Nat.le_of_lt HG1.out))); have HZ2 := Lib.hid ((hrs.2.1.block w.heap.size (heapLt HZ1.out) (Nat.ne_of_lt HG1.out)).trans HZ1.out); clear how hrs; refine Stop.out ?_)
 unfold Stop
 have HWs : Hid (w.heap.size < w1.heap.size) := Lib.hid (heapLt HZ1.out)
 clear HR1 HB1 HZ1
 have HCV := Lib.hid (HC.out A2 c2)
 generalize hcv : cs A2 c2 = cv at HCV ⊢
 have HCE : Hid (cs A2 c2 = cv) := Lib.hid hcv
 clear hcv HC
 have HX := Lib.hid (heap_alloc_new w2 (.cells zeroCmd 28))
 have HBn := Lib.hid (below_setRow (below_alloc w2 (.cells zeroCmd 28)) (Nat.le_refl w2.heap.size) cv)
 have HX3 := Lib.hid (setRow_heap (w2.alloc (.cells zeroCmd 28)) w2.heap.size _ cv _ _ HX.out)
 have HSZ : Hid (zeroCmd.size = cv.size) := Lib.hid HCV.out.1.symm
 have HI := Lib.hid (cmd_info HCV.out.1)
 go_wp2_with ((with_reducible refine wpList_store_row (o := ⟨none, _, _, _, _, _⟩) ?b1 28 (.tmp 5) (.tmp 9) ?b2 w2.heap.size cv ?b3 ?b4 28 zeroCmd HX.out ?b5 ?b6 ?b7 ?_); (case b1 => rfl); (case b2 => rfl); (case b3 => rfl); (case b4 => rfl); (case b5 => exact HI.out); (case b6 => exact HSZ.out); (case b7 => exact HCV.out.2); refine Stop.out ?_)
 unfold Stop
 generalize World.setRow _ _ _ = w3 at HBn HX3 ⊢
 have HZ3 := Lib.hid (heap_on HBn.out HZ2.out)
 have HOW3 := Lib.hid (HOW.out.on HBn.out)
 have HR3 := Lib.hid (HRS.out.1.on HBn.out)
 have HB3 := Lib.hid (below_then HB2.out HBn.out)
 clear HX HBn HZ2 HOW HRS HB2
 generalize w2.heap.size = bb at HX3 ⊢
 go_wp2_with (go_at_call 46; refine (HD.out w3 g HR3.out).mono ?_; rintro e w4 ⟨rfl, rfl⟩; refine Stop.out ?_)
 unfold Stop
 obtain ⟨A3, c3, q1, q2, q3, q4, q5⟩ := HOW3.out.bounds
 simp only [Value.slice.injEq] at q1
 obtain ⟨rfl, _, rfl⟩ := q1
 have HRow := Lib.hid (And.intro q2 (And.intro q3 (And.intro q4 q5)))
 have HGx : Hid (Calls Tryz.prog 8 #[.agg cv] w3 fun e w1 => e = .returned (.bool true) ∧ Below w3.heap.size w3 w1) := Lib.hid (by rw [← HCE.out]; exact HGd.out _ A2 c2 HB3.out q2 q3 q4 q5)
 have HAp : Hid (∀ a, A2 = some a → w.heap.size < a.block) := Lib.hid (fun a e => by subst e; have h1 := (HOW3.out.block a.block rfl).1; have := HWs.out; omega)
 clear q2 q3 q4 q5 HGd HOW3
 go_wp2_with ((with_reducible refine wpList_load_rowG (o := ⟨some 14, _, _, _, _, _⟩) ?a0 28 (.tmp 5) ?a1 bb ?a2 28 cv (0, 0) _ HX3.out Tryz.underlying28 ?a4 HI.out ?_); (case a0 => first | rfl | kernel_rfl); (case a1 => rfl); (case a2 => rfl); (case a4 => rfl); refine Stop.out ?_)
 unfold Stop
 go_wp2_with (go_at_call 8; refine HGx.out.mono ?_; rintro e w5 ⟨rfl, hb⟩; have HX5 := Lib.hid (heap_on hb HX3.out); have HZ5 := Lib.hid (heap_on hb HZ3.out); have HB5 := Lib.hid (below_then HB3.out hb); have HRow5 := Lib.hid (HRow.out.1.on hb); clear hb; refine Stop.out ?_)
 unfold Stop
 go_wp2_with ((with_reducible refine wpList_load_row (o := ⟨some 19, _, _, _, _, _⟩) ?a1 28 (.tmp 5) ?a2 bb ?a3 28 cv (0, 0) _ HX5.out Tryz.underlying28 ?a4 HI.out ?_); (case a1 => rfl); (case a2 => rfl); (case a3 => rfl); (case a4 => rfl); refine Stop.out ?_)
 unfold Stop
 have HSZ9 : Hid (zeroCmd.size = cv.size) := Lib.hid HSZ.out
 go_wp2_with ((with_reducible refine wpList_store_row (o := ⟨none, _, _, _, _, _⟩) ?b1 28 (.tmp 2) (.tmp 19) ?b2 w.heap.size cv ?b3 ?b4 28 zeroCmd HZ5.out ?b5 ?b6 ?b7 ?_); (case b1 => rfl); (case b2 => rfl); (case b3 => rfl); (case b4 => rfl); (case b5 => exact HI.out); (case b6 => exact HSZ9.out); (case b7 => exact HCV.out.2); refine Stop.out ?_)
 unfold Stop
 have HP9 := Lib.hid (setRow_heap w5 w.heap.size _ cv _ _ HZ5.out)
 go_wp2
 refine bodyPost_ret (v := .tuple #[.agg cv, .int .i64 0]) (results_row_tmp Tryz.results16 _ _ w.heap.size 28 cv (0, 0) _ rfl _ rfl HP9.out Tryz.underlying28 rfl HI.out) rfl ⟨A2, c2, by rw [HCE.out], ?_, HRow.out.2.1, HRow.out.2.2.1, HRow.out.2.2.2, below_setRow HB5.out (Nat.le_refl _) cv⟩
 exact row_setRow HRow5.out (fun A e => by have := HAp.out A e; omega)
end Go.Proofs.YtplghpamckdklaaGreat

namespace Go.Proofs.YtplghpamckdklaaGreat
open Go.RowKit
set_option maxRecDepth 100000
set_option linter.unusedSimpArgs false
set_option linter.unusedVariables false

/-- a command's document, its lines elsewhere -/
def at8 (x : CmdV) (A : Option Addr) (c : Nat) : CmdV := ⟨x.kind, ⟨#[]⟩, ⟨#[]⟩, 0, 0, 0, 0, 0, 0, 0, 0, 0, 0, x.id, x.sale, x.credit, x.refers, x.day, x.country, x.number, x.currency, A, x.lines, c⟩
theorem at8_ok {w W : World} {x : CmdV} (h : CmdVOk w x) {A : Option Addr} {c : Nat} (hr : RowLineV W A x.lines) (hA : A = none → x.lines = [] ∧ c = 0) (hc : x.lines.length ≤ c) (hm : c ≤ maxLen) : CmdVOk W (at8 x A c) := by
 obtain ⟨s0, s1, s2, s3, s4, s5, s6, r, a, lc, cm, g⟩ := h
 exact ⟨nil_size, nil_size, s2, s3, s4, s5, s6, hr, hA, hc, hm, g⟩
theorem lines_none {x y : CmdV} (h : sameC x y = true) (hy : y.lines = []) : x.lines.length = y.lines.length := by
 unfold sameC sameD likes at h
 simp only [Bool.and_eq_true, beq_iff_eq] at h
 exact h.2.2.2.2.2.2.2.2.2.2.2.2.2.2.2.2.2.2.2.2.2.1
/-- what a decoded command is, held against x -/
def DecX (x : CmdV) (w : World) (e : Ending) (w1 : World) : Prop := ∃ y : CmdV, e = .returned (.tuple #[.agg (cmdA y), .int .i64 0]) ∧ CmdVOk w1 y ∧ sameC x y = true ∧ goodC y = true ∧ y.lines.length = x.lines.length ∧ encT y = encT x ∧ Below w.heap.size w w1
theorem gon_1 {x : CmdV} (hk : x.kind = 1) (hg : goodC x = true) : goodC (on1 x) = true := by
 have h := (good_is_1 hk hg).1
 rw [goodC_1 (x := on1 x) hk]
 refine Bool.and_eq_true_iff.2 ⟨h, ?_⟩
 simp [sameC, sameD, docOf, on1, un1, kindX, likes]
theorem eon_1 {x : CmdV} (hk : x.kind = 1) : encT (on1 x) = encT x := by
 unfold encT
 rw [bodyT_1 (x := on1 x) hk, bodyT_1 hk]
 rfl
set_option maxHeartbeats 1000000 in
theorem decode_1 (x : CmdV) (w : World) (hx : CmdVOk w x) (hn : x.lines.length ≤ 140737488351232) (hM : MaxL w) (hg : goodC x = true) (hk : x.kind = 1) (A0 : Option Addr) (cap : Nat) (hT : Txt w A0 (encT x)) (hA : A0 = none → encT x = []) : Calls Tryz.prog 16 #[.slice A0 (encT x).length cap] w fun e w1 => DecX x w e w1 := by
 have hN : NR (1 : Int) := ⟨by omega, by omega⟩
 have hf := fit_1 hk hg
 have e1 : encT x = nB 1 ++ (sB x.state ++ (nB x.index ++ (nB x.from_ ++ []))) := by unfold encT; rw [bodyT_1 hk, hk]
 refine (decode_yes (encT x) A0 cap (fun _ _ => (cmdA (on1 x))) [] (false, []) w (by have := encT_len hg; omega) hT hA (Lib.hid fun W g hb hr => ?_) (Lib.hid fun A c => ⟨rfl, by simp [Value.oneCell', cmdA]⟩) rfl (Lib.hid fun W A c hb _ _ _ _ => ?_)).mono fun e w1 h => ?_
 · refine (read_1 g (false, encT x) W hr (by rw [e1]; exact numV_doc hN _ _)).mono fun e w1 h => ?_
   obtain ⟨cs', he, hc, hs⟩ := h
   rw [e1] at hc hs
   simp only [numV_doc hN, numS_doc hN, textV_doc (hf.1), textS_doc (hf.1), numV_doc (hf.2.1), numS_doc (hf.2.1), numV_doc (hf.2.2), numS_doc (hf.2.2)] at hc hs
   refine ⟨none, 0, ?_, World.ownsRow_nil _ _ _ 9, hs⟩
   rw [he, hc]
   unfold cmdA on1
   dsimp only
   rw [hk]
   rfl
 · have h := code_goodC (on1 x) W (on1_ok (CmdVOk.on' hx hb)) (by show (([] : List LineV)).length ≤ _; simp) (hM.below hb)
   rw [gon_1 hk hg] at h
   exact h
 · obtain ⟨A, c, he, _, _, _, _, hb⟩ := h
   exact ⟨on1 x, he, on1_ok (CmdVOk.on' hx hb), (good_is_1 hk hg).2, gon_1 hk hg, (by have h := (good_is_1 hk hg).2; exact (lines_none h rfl).symm), eon_1 hk, hb⟩
theorem gon_2 {x : CmdV} (hk : x.kind = 2) (hg : goodC x = true) : goodC (on2 x) = true := by
 have h := (good_is_2 hk hg).1
 rw [goodC_2 (x := on2 x) hk]
 refine Bool.and_eq_true_iff.2 ⟨h, ?_⟩
 simp [sameC, sameD, docOf, on2, un2, kindX, likes]
theorem eon_2 {x : CmdV} (hk : x.kind = 2) : encT (on2 x) = encT x := by
 unfold encT
 rw [bodyT_2 (x := on2 x) hk, bodyT_2 hk]
 rfl
set_option maxHeartbeats 1000000 in
theorem decode_2 (x : CmdV) (w : World) (hx : CmdVOk w x) (hn : x.lines.length ≤ 140737488351232) (hM : MaxL w) (hg : goodC x = true) (hk : x.kind = 2) (A0 : Option Addr) (cap : Nat) (hT : Txt w A0 (encT x)) (hA : A0 = none → encT x = []) : Calls Tryz.prog 16 #[.slice A0 (encT x).length cap] w fun e w1 => DecX x w e w1 := by
 have hN : NR (2 : Int) := ⟨by omega, by omega⟩
 have hf := fit_2 hk hg
 have e1 : encT x = nB 2 ++ (sB x.state ++ (nB x.category ++ (nB x.from_ ++ (nB x.until_ ++ (nB x.bp ++ []))))) := by unfold encT; rw [bodyT_2 hk, hk]
 refine (decode_yes (encT x) A0 cap (fun _ _ => (cmdA (on2 x))) [] (false, []) w (by have := encT_len hg; omega) hT hA (Lib.hid fun W g hb hr => ?_) (Lib.hid fun A c => ⟨rfl, by simp [Value.oneCell', cmdA]⟩) rfl (Lib.hid fun W A c hb _ _ _ _ => ?_)).mono fun e w1 h => ?_
 · refine (read_2 g (false, encT x) W hr (by rw [e1]; exact numV_doc hN _ _)).mono fun e w1 h => ?_
   obtain ⟨cs', he, hc, hs⟩ := h
   rw [e1] at hc hs
   simp only [numV_doc hN, numS_doc hN, textV_doc (hf.1), textS_doc (hf.1), numV_doc (hf.2.1), numS_doc (hf.2.1), numV_doc (hf.2.2.1), numS_doc (hf.2.2.1), numV_doc (hf.2.2.2.1), numS_doc (hf.2.2.2.1), numV_doc (hf.2.2.2.2), numS_doc (hf.2.2.2.2)] at hc hs
   refine ⟨none, 0, ?_, World.ownsRow_nil _ _ _ 9, hs⟩
   rw [he, hc]
   unfold cmdA on2
   dsimp only
   rw [hk]
   rfl
 · have h := code_goodC (on2 x) W (on2_ok (CmdVOk.on' hx hb)) (by show (([] : List LineV)).length ≤ _; simp) (hM.below hb)
   rw [gon_2 hk hg] at h
   exact h
 · obtain ⟨A, c, he, _, _, _, _, hb⟩ := h
   exact ⟨on2 x, he, on2_ok (CmdVOk.on' hx hb), (good_is_2 hk hg).2, gon_2 hk hg, (by have h := (good_is_2 hk hg).2; exact (lines_none h rfl).symm), eon_2 hk, hb⟩
theorem gon_3 {x : CmdV} (hk : x.kind = 3) (hg : goodC x = true) : goodC (on3 x) = true := by
 have h := (good_is_3 hk hg).1
 rw [goodC_3 (x := on3 x) hk]
 refine Bool.and_eq_true_iff.2 ⟨h, ?_⟩
 simp [sameC, sameD, docOf, on3, un3, kindX, likes]
theorem eon_3 {x : CmdV} (hk : x.kind = 3) : encT (on3 x) = encT x := by
 unfold encT
 rw [bodyT_3 (x := on3 x) hk, bodyT_3 hk]
 rfl
set_option maxHeartbeats 1000000 in
theorem decode_3 (x : CmdV) (w : World) (hx : CmdVOk w x) (hn : x.lines.length ≤ 140737488351232) (hM : MaxL w) (hg : goodC x = true) (hk : x.kind = 3) (A0 : Option Addr) (cap : Nat) (hT : Txt w A0 (encT x)) (hA : A0 = none → encT x = []) : Calls Tryz.prog 16 #[.slice A0 (encT x).length cap] w fun e w1 => DecX x w e w1 := by
 have hN : NR (3 : Int) := ⟨by omega, by omega⟩
 have hf := fit_3 hk hg
 have e1 : encT x = nB 3 ++ (nB x.from_ ++ (nB x.until_ ++ [])) := by unfold encT; rw [bodyT_3 hk, hk]
 refine (decode_yes (encT x) A0 cap (fun _ _ => (cmdA (on3 x))) [] (false, []) w (by have := encT_len hg; omega) hT hA (Lib.hid fun W g hb hr => ?_) (Lib.hid fun A c => ⟨rfl, by simp [Value.oneCell', cmdA]⟩) rfl (Lib.hid fun W A c hb _ _ _ _ => ?_)).mono fun e w1 h => ?_
 · refine (read_3 g (false, encT x) W hr (by rw [e1]; exact numV_doc hN _ _)).mono fun e w1 h => ?_
   obtain ⟨cs', he, hc, hs⟩ := h
   rw [e1] at hc hs
   simp only [numV_doc hN, numS_doc hN, numV_doc (hf.1), numS_doc (hf.1), numV_doc (hf.2), numS_doc (hf.2)] at hc hs
   refine ⟨none, 0, ?_, World.ownsRow_nil _ _ _ 9, hs⟩
   rw [he, hc]
   unfold cmdA on3
   dsimp only
   rw [hk]
   rfl
 · have h := code_goodC (on3 x) W (on3_ok (CmdVOk.on' hx hb)) (by show (([] : List LineV)).length ≤ _; simp) (hM.below hb)
   rw [gon_3 hk hg] at h
   exact h
 · obtain ⟨A, c, he, _, _, _, _, hb⟩ := h
   exact ⟨on3 x, he, on3_ok (CmdVOk.on' hx hb), (good_is_3 hk hg).2, gon_3 hk hg, (by have h := (good_is_3 hk hg).2; exact (lines_none h rfl).symm), eon_3 hk, hb⟩
theorem gon_4 {x : CmdV} (hk : x.kind = 4) (hg : goodC x = true) : goodC (on4 x) = true := by
 have h := (good_is_4 hk hg).1
 rw [goodC_4 (x := on4 x) hk]
 refine Bool.and_eq_true_iff.2 ⟨h, ?_⟩
 simp [sameC, sameD, docOf, on4, un4, kindX, likes]
theorem eon_4 {x : CmdV} (hk : x.kind = 4) : encT (on4 x) = encT x := by
 unfold encT
 rw [bodyT_4 (x := on4 x) hk, bodyT_4 hk]
 rfl
set_option maxHeartbeats 1000000 in
theorem decode_4 (x : CmdV) (w : World) (hx : CmdVOk w x) (hn : x.lines.length ≤ 140737488351232) (hM : MaxL w) (hg : goodC x = true) (hk : x.kind = 4) (A0 : Option Addr) (cap : Nat) (hT : Txt w A0 (encT x)) (hA : A0 = none → encT x = []) : Calls Tryz.prog 16 #[.slice A0 (encT x).length cap] w fun e w1 => DecX x w e w1 := by
 have hN : NR (4 : Int) := ⟨by omega, by omega⟩
 have hf := fit_4 hk hg
 have e1 : encT x = nB 4 ++ (sB x.state ++ (sB x.text ++ (nB x.from_ ++ (nB x.until_ ++ [])))) := by unfold encT; rw [bodyT_4 hk, hk]
 refine (decode_yes (encT x) A0 cap (fun _ _ => (cmdA (on4 x))) [] (false, []) w (by have := encT_len hg; omega) hT hA (Lib.hid fun W g hb hr => ?_) (Lib.hid fun A c => ⟨rfl, by simp [Value.oneCell', cmdA]⟩) rfl (Lib.hid fun W A c hb _ _ _ _ => ?_)).mono fun e w1 h => ?_
 · refine (read_4 g (false, encT x) W hr (by rw [e1]; exact numV_doc hN _ _)).mono fun e w1 h => ?_
   obtain ⟨cs', he, hc, hs⟩ := h
   rw [e1] at hc hs
   simp only [numV_doc hN, numS_doc hN, textV_doc (hf.1), textS_doc (hf.1), textV_doc (hf.2.1), textS_doc (hf.2.1), numV_doc (hf.2.2.1), numS_doc (hf.2.2.1), numV_doc (hf.2.2.2), numS_doc (hf.2.2.2)] at hc hs
   refine ⟨none, 0, ?_, World.ownsRow_nil _ _ _ 9, hs⟩
   rw [he, hc]
   unfold cmdA on4
   dsimp only
   rw [hk]
   rfl
 · have h := code_goodC (on4 x) W (on4_ok (CmdVOk.on' hx hb)) (by show (([] : List LineV)).length ≤ _; simp) (hM.below hb)
   rw [gon_4 hk hg] at h
   exact h
 · obtain ⟨A, c, he, _, _, _, _, hb⟩ := h
   exact ⟨on4 x, he, on4_ok (CmdVOk.on' hx hb), (good_is_4 hk hg).2, gon_4 hk hg, (by have h := (good_is_4 hk hg).2; exact (lines_none h rfl).symm), eon_4 hk, hb⟩
theorem gon_5 {x : CmdV} (hk : x.kind = 5) (hg : goodC x = true) : goodC (on5 x) = true := by
 have h := (good_is_5 hk hg).1
 rw [goodC_5 (x := on5 x) hk]
 refine Bool.and_eq_true_iff.2 ⟨h, ?_⟩
 simp [sameC, sameD, docOf, on5, un5, kindX, likes]
theorem eon_5 {x : CmdV} (hk : x.kind = 5) : encT (on5 x) = encT x := by
 unfold encT
 rw [bodyT_5 (x := on5 x) hk, bodyT_5 hk]
 rfl
set_option maxHeartbeats 1000000 in
theorem decode_5 (x : CmdV) (w : World) (hx : CmdVOk w x) (hn : x.lines.length ≤ 140737488351232) (hM : MaxL w) (hg : goodC x = true) (hk : x.kind = 5) (A0 : Option Addr) (cap : Nat) (hT : Txt w A0 (encT x)) (hA : A0 = none → encT x = []) : Calls Tryz.prog 16 #[.slice A0 (encT x).length cap] w fun e w1 => DecX x w e w1 := by
 have hN : NR (5 : Int) := ⟨by omega, by omega⟩
 have hf := fit_5 hk hg
 have e1 : encT x = nB 5 ++ (sB x.text ++ (nB x.py ++ (nB x.pi ++ (nB x.num ++ (nB x.den ++ []))))) := by unfold encT; rw [bodyT_5 hk, hk]
 refine (decode_yes (encT x) A0 cap (fun _ _ => (cmdA (on5 x))) [] (false, []) w (by have := encT_len hg; omega) hT hA (Lib.hid fun W g hb hr => ?_) (Lib.hid fun A c => ⟨rfl, by simp [Value.oneCell', cmdA]⟩) rfl (Lib.hid fun W A c hb _ _ _ _ => ?_)).mono fun e w1 h => ?_
 · refine (read_5 g (false, encT x) W hr (by rw [e1]; exact numV_doc hN _ _)).mono fun e w1 h => ?_
   obtain ⟨cs', he, hc, hs⟩ := h
   rw [e1] at hc hs
   simp only [numV_doc hN, numS_doc hN, textV_doc (hf.1), textS_doc (hf.1), numV_doc (hf.2.1), numS_doc (hf.2.1), numV_doc (hf.2.2.1), numS_doc (hf.2.2.1), numV_doc (hf.2.2.2.1), numS_doc (hf.2.2.2.1), numV_doc (hf.2.2.2.2), numS_doc (hf.2.2.2.2)] at hc hs
   have hp := (per_is (Bool.and_eq_true_iff.1 (Bool.and_eq_true_iff.1 (good_is_5 hk hg).1).2).1).1
   refine ⟨none, 0, ?_, World.ownsRow_nil _ _ _ 9, hs⟩
   rw [he, hc]
   unfold cmdA on5
   dsimp only
   rw [hk, hp]
   rfl
 · have h := code_goodC (on5 x) W (on5_ok (CmdVOk.on' hx hb)) (by show (([] : List LineV)).length ≤ _; simp) (hM.below hb)
   rw [gon_5 hk hg] at h
   exact h
 · obtain ⟨A, c, he, _, _, _, _, hb⟩ := h
   exact ⟨on5 x, he, on5_ok (CmdVOk.on' hx hb), (good_is_5 hk hg).2, gon_5 hk hg, (by have h := (good_is_5 hk hg).2; exact (lines_none h rfl).symm), eon_5 hk, hb⟩
theorem gon_6 {x : CmdV} (hk : x.kind = 6) (hg : goodC x = true) : goodC (on6 x) = true := by
 have h := (good_is_6 hk hg).1
 rw [goodC_6 (x := on6 x) hk]
 refine Bool.and_eq_true_iff.2 ⟨h, ?_⟩
 simp [sameC, sameD, docOf, on6, un6, kindX, likes]
theorem eon_6 {x : CmdV} (hk : x.kind = 6) : encT (on6 x) = encT x := by
 unfold encT
 rw [bodyT_6 (x := on6 x) hk, bodyT_6 hk]
 rfl
set_option maxHeartbeats 1000000 in
theorem decode_6 (x : CmdV) (w : World) (hx : CmdVOk w x) (hn : x.lines.length ≤ 140737488351232) (hM : MaxL w) (hg : goodC x = true) (hk : x.kind = 6) (A0 : Option Addr) (cap : Nat) (hT : Txt w A0 (encT x)) (hA : A0 = none → encT x = []) : Calls Tryz.prog 16 #[.slice A0 (encT x).length cap] w fun e w1 => DecX x w e w1 := by
 have hN : NR (6 : Int) := ⟨by omega, by omega⟩
 have hf := fit_6 hk hg
 have e1 : encT x = nB 6 ++ (sB x.text ++ []) := by unfold encT; rw [bodyT_6 hk, hk]
 refine (decode_yes (encT x) A0 cap (fun _ _ => (cmdA (on6 x))) [] (false, []) w (by have := encT_len hg; omega) hT hA (Lib.hid fun W g hb hr => ?_) (Lib.hid fun A c => ⟨rfl, by simp [Value.oneCell', cmdA]⟩) rfl (Lib.hid fun W A c hb _ _ _ _ => ?_)).mono fun e w1 h => ?_
 · refine (read_6 g (false, encT x) W hr (by rw [e1]; exact numV_doc hN _ _)).mono fun e w1 h => ?_
   obtain ⟨cs', he, hc, hs⟩ := h
   rw [e1] at hc hs
   simp only [numV_doc hN, numS_doc hN, textV_doc (hf), textS_doc (hf)] at hc hs
   refine ⟨none, 0, ?_, World.ownsRow_nil _ _ _ 9, hs⟩
   rw [he, hc]
   unfold cmdA on6
   dsimp only
   rw [hk]
   rfl
 · have h := code_goodC (on6 x) W (on6_ok (CmdVOk.on' hx hb)) (by show (([] : List LineV)).length ≤ _; simp) (hM.below hb)
   rw [gon_6 hk hg] at h
   exact h
 · obtain ⟨A, c, he, _, _, _, _, hb⟩ := h
   exact ⟨on6 x, he, on6_ok (CmdVOk.on' hx hb), (good_is_6 hk hg).2, gon_6 hk hg, (by have h := (good_is_6 hk hg).2; exact (lines_none h rfl).symm), eon_6 hk, hb⟩
theorem gon_7 {x : CmdV} (hk : x.kind = 7) (hg : goodC x = true) : goodC (on7 x) = true := by
 have h := (good_is_7 hk hg).1
 rw [goodC_7 (x := on7 x) hk]
 refine Bool.and_eq_true_iff.2 ⟨h, ?_⟩
 simp [sameC, sameD, docOf, on7, un7, kindX, likes]
theorem eon_7 {x : CmdV} (hk : x.kind = 7) : encT (on7 x) = encT x := by
 unfold encT
 rw [bodyT_7 (x := on7 x) hk, bodyT_7 hk]
 rfl
set_option maxHeartbeats 1000000 in
theorem decode_7 (x : CmdV) (w : World) (hx : CmdVOk w x) (hn : x.lines.length ≤ 140737488351232) (hM : MaxL w) (hg : goodC x = true) (hk : x.kind = 7) (A0 : Option Addr) (cap : Nat) (hT : Txt w A0 (encT x)) (hA : A0 = none → encT x = []) : Calls Tryz.prog 16 #[.slice A0 (encT x).length cap] w fun e w1 => DecX x w e w1 := by
 have hN : NR (7 : Int) := ⟨by omega, by omega⟩
 have hf := fit_7 hk hg
 have e1 : encT x = nB 7 ++ (nB x.py ++ (nB x.num ++ [])) := by unfold encT; rw [bodyT_7 hk, hk]
 refine (decode_yes (encT x) A0 cap (fun _ _ => (cmdA (on7 x))) [] (false, []) w (by have := encT_len hg; omega) hT hA (Lib.hid fun W g hb hr => ?_) (Lib.hid fun A c => ⟨rfl, by simp [Value.oneCell', cmdA]⟩) rfl (Lib.hid fun W A c hb _ _ _ _ => ?_)).mono fun e w1 h => ?_
 · refine (read_7 g (false, encT x) W hr (by rw [e1]; exact numV_doc hN _ _)).mono fun e w1 h => ?_
   obtain ⟨cs', he, hc, hs⟩ := h
   rw [e1] at hc hs
   simp only [numV_doc hN, numS_doc hN, numV_doc (hf.1), numS_doc (hf.1), numV_doc (hf.2), numS_doc (hf.2)] at hc hs
   have hq := per_is (Bool.and_eq_true_iff.1 (good_is_7 hk hg).1).2
   have hp := hq.1
   have hp2 := hq.2.2.2 rfl
   refine ⟨none, 0, ?_, World.ownsRow_nil _ _ _ 9, hs⟩
   rw [he, hc]
   unfold cmdA on7
   dsimp only
   rw [hk, hp, hp2]
   rfl
 · have h := code_goodC (on7 x) W (on7_ok (CmdVOk.on' hx hb)) (by show (([] : List LineV)).length ≤ _; simp) (hM.below hb)
   rw [gon_7 hk hg] at h
   exact h
 · obtain ⟨A, c, he, _, _, _, _, hb⟩ := h
   exact ⟨on7 x, he, on7_ok (CmdVOk.on' hx hb), (good_is_7 hk hg).2, gon_7 hk hg, (by have h := (good_is_7 hk hg).2; exact (lines_none h rfl).symm), eon_7 hk, hb⟩
theorem gon_8 {x : CmdV} (hk : x.kind = 8) (hg : goodC x = true) (A : Option Addr) (c : Nat) : goodC (at8 x A c) = true := by
 have h := (good_is_8 hk hg).1
 rw [goodC_8 (x := at8 x A c) hk]
 refine Bool.and_eq_true_iff.2 ⟨h, ?_⟩
 simp [sameC, sameD, docOf, at8, un8, kindX, likes]
theorem eon_8 {x : CmdV} (hk : x.kind = 8) (A : Option Addr) (c : Nat) : encT (at8 x A c) = encT x := by
 unfold encT
 rw [bodyT_8 (x := at8 x A c) hk, bodyT_8 hk]
 rfl
set_option maxHeartbeats 1000000 in
theorem decode_8 (x : CmdV) (w : World) (hx : CmdVOk w x) (hn : x.lines.length ≤ 140737488351232) (hM : MaxL w) (hg : goodC x = true) (hk : x.kind = 8) (A0 : Option Addr) (cap : Nat) (hT : Txt w A0 (encT x)) (hA : A0 = none → encT x = []) : Calls Tryz.prog 16 #[.slice A0 (encT x).length cap] w fun e w1 => DecX x w e w1 := by
 have hN : NR (8 : Int) := ⟨by omega, by omega⟩
 have hf := fit_8 hk hg
 have e1 : encT x = nB 8 ++ headW (docOf x) (linesW (docOf x).lines []) := by unfold encT; rw [bodyT_8 hk, hk]; rfl
 have e2 : docR (numS (false, encT x)) = ((x.id, x.sale, x.credit, x.refers, x.day, x.country, x.number, x.currency), x.lines, (false, [])) := by
  rw [e1, numS_doc hN]
  exact docR_doc hf false []
 refine (decode_yes (encT x) A0 cap (fun A c => #[.int .i64 x.kind, .string ⟨#[]⟩, .string ⟨#[]⟩, .int .i64 0, .int .i64 0, .int .i64 0, .int .i64 0, .int .i64 0, .int .i64 0, .int .i64 0, .int .i64 0, .int .i64 0, .int .i64 0, .string x.id, .bool x.sale, .bool x.credit, .string x.refers, .int .i64 x.day, .string x.country, .string x.number, .string x.currency, .slice A x.lines.length c]) x.lines (false, []) w (by have := encT_len hg; omega) hT hA (Lib.hid fun W g hb hr => ?_) (Lib.hid fun A c => ⟨rfl, by simp [Value.oneCell', cmdA]⟩) rfl (Lib.hid fun W A c hb hr h1 h2 h3 => ?_)).mono fun e w1 h => ?_
 · refine (read_8 g (false, encT x) W hr (by rw [e1]; exact numV_doc hN _ _)).mono fun e w1 h => ?_
   rw [e2] at h
   obtain ⟨A, c, he, ho, hs⟩ := h
   exact ⟨A, c, by rw [he, hk]; rfl, ho, hs⟩
 · have h := code_goodC (at8 x A c) W (at8_ok hx hr h1 h2 h3) hn (hM.below hb)
   rw [gon_8 hk hg] at h
   exact h
 · obtain ⟨A, c, he, hr, h1, h2, h3, hb⟩ := h
   exact ⟨at8 x A c, he, at8_ok hx hr h1 h2 h3, (good_is_8 hk hg).2, gon_8 hk hg A c, rfl, eon_8 hk A c, hb⟩
theorem gon_9 {x : CmdV} (hk : x.kind = 9) (hg : goodC x = true) : goodC (on9 x) = true := by
 have h := (good_is_9 hk hg).1
 rw [goodC_9 (x := on9 x) hk]
 refine Bool.and_eq_true_iff.2 ⟨h, ?_⟩
 simp [sameC, sameD, docOf, on9, un9, kindX, likes]
theorem eon_9 {x : CmdV} (hk : x.kind = 9) : encT (on9 x) = encT x := by
 unfold encT
 rw [bodyT_9 (x := on9 x) hk, bodyT_9 hk]
 rfl
set_option maxHeartbeats 1000000 in
theorem decode_9 (x : CmdV) (w : World) (hx : CmdVOk w x) (hn : x.lines.length ≤ 140737488351232) (hM : MaxL w) (hg : goodC x = true) (hk : x.kind = 9) (A0 : Option Addr) (cap : Nat) (hT : Txt w A0 (encT x)) (hA : A0 = none → encT x = []) : Calls Tryz.prog 16 #[.slice A0 (encT x).length cap] w fun e w1 => DecX x w e w1 := by
 have hN : NR (9 : Int) := ⟨by omega, by omega⟩
 have hf := fit_9 hk hg
 have e1 : encT x = nB 9 ++ (nB x.pk ++ (nB x.py ++ (nB x.pi ++ []))) := by unfold encT; rw [bodyT_9 hk, hk]
 refine (decode_yes (encT x) A0 cap (fun _ _ => (cmdA (on9 x))) [] (false, []) w (by have := encT_len hg; omega) hT hA (Lib.hid fun W g hb hr => ?_) (Lib.hid fun A c => ⟨rfl, by simp [Value.oneCell', cmdA]⟩) rfl (Lib.hid fun W A c hb _ _ _ _ => ?_)).mono fun e w1 h => ?_
 · refine (read_9 g (false, encT x) W hr (by rw [e1]; exact numV_doc hN _ _)).mono fun e w1 h => ?_
   obtain ⟨cs', he, hc, hs⟩ := h
   rw [e1] at hc hs
   simp only [numV_doc hN, numS_doc hN, numV_doc (hf.1), numS_doc (hf.1), numV_doc (hf.2.1), numS_doc (hf.2.1), numV_doc (hf.2.2), numS_doc (hf.2.2)] at hc hs
   refine ⟨none, 0, ?_, World.ownsRow_nil _ _ _ 9, hs⟩
   rw [he, hc]
   unfold cmdA on9
   dsimp only
   rw [hk]
   rfl
 · have h := code_goodC (on9 x) W (on9_ok (CmdVOk.on' hx hb)) (by show (([] : List LineV)).length ≤ _; simp) (hM.below hb)
   rw [gon_9 hk hg] at h
   exact h
 · obtain ⟨A, c, he, _, _, _, _, hb⟩ := h
   exact ⟨on9 x, he, on9_ok (CmdVOk.on' hx hb), (good_is_9 hk hg).2, gon_9 hk hg, (by have h := (good_is_9 hk hg).2; exact (lines_none h rfl).symm), eon_9 hk, hb⟩
theorem gon_10 {x : CmdV} (hk : x.kind = 10) (hg : goodC x = true) : goodC (on10 x) = true := by
 have h := (good_is_10 hk hg).1
 rw [goodC_10 (x := on10 x) hk]
 refine Bool.and_eq_true_iff.2 ⟨h, ?_⟩
 simp [sameC, sameD, docOf, on10, un10, kindX, likes]
theorem eon_10 {x : CmdV} (hk : x.kind = 10) : encT (on10 x) = encT x := by
 unfold encT
 rw [bodyT_10 (x := on10 x) hk, bodyT_10 hk]
 rfl
set_option maxHeartbeats 1000000 in
theorem decode_10 (x : CmdV) (w : World) (hx : CmdVOk w x) (hn : x.lines.length ≤ 140737488351232) (hM : MaxL w) (hg : goodC x = true) (hk : x.kind = 10) (A0 : Option Addr) (cap : Nat) (hT : Txt w A0 (encT x)) (hA : A0 = none → encT x = []) : Calls Tryz.prog 16 #[.slice A0 (encT x).length cap] w fun e w1 => DecX x w e w1 := by
 have hN : NR (10 : Int) := ⟨by omega, by omega⟩
 have hf := fit_10 hk hg
 have e1 : encT x = nB 10 ++ (nB x.pk ++ (nB x.py ++ (nB x.pi ++ []))) := by unfold encT; rw [bodyT_10 hk, hk]
 refine (decode_yes (encT x) A0 cap (fun _ _ => (cmdA (on10 x))) [] (false, []) w (by have := encT_len hg; omega) hT hA (Lib.hid fun W g hb hr => ?_) (Lib.hid fun A c => ⟨rfl, by simp [Value.oneCell', cmdA]⟩) rfl (Lib.hid fun W A c hb _ _ _ _ => ?_)).mono fun e w1 h => ?_
 · refine (read_10 g (false, encT x) W hr (by rw [e1]; exact numV_doc hN _ _)).mono fun e w1 h => ?_
   obtain ⟨cs', he, hc, hs⟩ := h
   rw [e1] at hc hs
   simp only [numV_doc hN, numS_doc hN, numV_doc (hf.1), numS_doc (hf.1), numV_doc (hf.2.1), numS_doc (hf.2.1), numV_doc (hf.2.2), numS_doc (hf.2.2)] at hc hs
   refine ⟨none, 0, ?_, World.ownsRow_nil _ _ _ 9, hs⟩
   rw [he, hc]
   unfold cmdA on10
   dsimp only
   rw [hk]
   rfl
 · have h := code_goodC (on10 x) W (on10_ok (CmdVOk.on' hx hb)) (by show (([] : List LineV)).length ≤ _; simp) (hM.below hb)
   rw [gon_10 hk hg] at h
   exact h
 · obtain ⟨A, c, he, _, _, _, _, hb⟩ := h
   exact ⟨on10 x, he, on10_ok (CmdVOk.on' hx hb), (good_is_10 hk hg).2, gon_10 hk hg, (by have h := (good_is_10 hk hg).2; exact (lines_none h rfl).symm), eon_10 hk, hb⟩
theorem gon_11 {x : CmdV} (hk : x.kind = 11) (hg : goodC x = true) : goodC (on11 x) = true := by
 have h := (good_is_11 hk hg).1
 rw [goodC_11 (x := on11 x) hk]
 refine Bool.and_eq_true_iff.2 ⟨h, ?_⟩
 simp [sameC, sameD, docOf, on11, un11, kindX, likes]
theorem eon_11 {x : CmdV} (hk : x.kind = 11) : encT (on11 x) = encT x := by
 unfold encT
 rw [bodyT_11 (x := on11 x) hk, bodyT_11 hk]
 rfl
set_option maxHeartbeats 1000000 in
theorem decode_11 (x : CmdV) (w : World) (hx : CmdVOk w x) (hn : x.lines.length ≤ 140737488351232) (hM : MaxL w) (hg : goodC x = true) (hk : x.kind = 11) (A0 : Option Addr) (cap : Nat) (hT : Txt w A0 (encT x)) (hA : A0 = none → encT x = []) : Calls Tryz.prog 16 #[.slice A0 (encT x).length cap] w fun e w1 => DecX x w e w1 := by
 have hN : NR (11 : Int) := ⟨by omega, by omega⟩
 have hf := fit_11 hk hg
 have e1 : encT x = nB 11 ++ (nB x.py ++ []) := by unfold encT; rw [bodyT_11 hk, hk]
 refine (decode_yes (encT x) A0 cap (fun _ _ => (cmdA (on11 x))) [] (false, []) w (by have := encT_len hg; omega) hT hA (Lib.hid fun W g hb hr => ?_) (Lib.hid fun A c => ⟨rfl, by simp [Value.oneCell', cmdA]⟩) rfl (Lib.hid fun W A c hb _ _ _ _ => ?_)).mono fun e w1 h => ?_
 · refine (read_11 g (false, encT x) W hr (by rw [e1]; exact numV_doc hN _ _)).mono fun e w1 h => ?_
   obtain ⟨cs', he, hc, hs⟩ := h
   rw [e1] at hc hs
   simp only [numV_doc hN, numS_doc hN, numV_doc (hf), numS_doc (hf)] at hc hs
   have hq := per_is (good_is_11 hk hg).1
   have hp := hq.1
   have hp2 := hq.2.2.2 rfl
   refine ⟨none, 0, ?_, World.ownsRow_nil _ _ _ 9, hs⟩
   rw [he, hc]
   unfold cmdA on11
   dsimp only
   rw [hk, hp, hp2]
   rfl
 · have h := code_goodC (on11 x) W (on11_ok (CmdVOk.on' hx hb)) (by show (([] : List LineV)).length ≤ _; simp) (hM.below hb)
   rw [gon_11 hk hg] at h
   exact h
 · obtain ⟨A, c, he, _, _, _, _, hb⟩ := h
   exact ⟨on11 x, he, on11_ok (CmdVOk.on' hx hb), (good_is_11 hk hg).2, gon_11 hk hg, (by have h := (good_is_11 hk hg).2; exact (lines_none h rfl).symm), eon_11 hk, hb⟩
theorem decode_enc (x : CmdV) (w : World) (hx : CmdVOk w x) (hn : x.lines.length ≤ 140737488351232) (hM : MaxL w) (hg : goodC x = true) (A0 : Option Addr) (cap : Nat) (hT : Txt w A0 (encT x)) (hA : A0 = none → encT x = []) : Calls Tryz.prog 16 #[.slice A0 (encT x).length cap] w fun e w1 => DecX x w e w1 := by
 have hk := kind_in hg
 by_cases h1 : x.kind = 1
 · exact decode_1 x w hx hn hM hg h1 A0 cap hT hA
 by_cases h2 : x.kind = 2
 · exact decode_2 x w hx hn hM hg h2 A0 cap hT hA
 by_cases h3 : x.kind = 3
 · exact decode_3 x w hx hn hM hg h3 A0 cap hT hA
 by_cases h4 : x.kind = 4
 · exact decode_4 x w hx hn hM hg h4 A0 cap hT hA
 by_cases h5 : x.kind = 5
 · exact decode_5 x w hx hn hM hg h5 A0 cap hT hA
 by_cases h6 : x.kind = 6
 · exact decode_6 x w hx hn hM hg h6 A0 cap hT hA
 by_cases h7 : x.kind = 7
 · exact decode_7 x w hx hn hM hg h7 A0 cap hT hA
 by_cases h8 : x.kind = 8
 · exact decode_8 x w hx hn hM hg h8 A0 cap hT hA
 by_cases h9 : x.kind = 9
 · exact decode_9 x w hx hn hM hg h9 A0 cap hT hA
 by_cases h10 : x.kind = 10
 · exact decode_10 x w hx hn hM hg h10 A0 cap hT hA
 by_cases h11 : x.kind = 11
 · exact decode_11 x w hx hn hM hg h11 A0 cap hT hA
 omega
end Go.Proofs.YtplghpamckdklaaGreat
