/- Decode, by what it calls. The chapter's document, as it is made. A command without what its kind does not name is as good. A command read of any bytes: its bytes are these. -/
import Derived.Test.YtmjjenemokojjaaGreatD31
import Derived.Test.YtmjjenemokojjaaGreatD28
import Derived.Deep.Cut
import Derived.Deep.DeepCutAuto
import Derived.Laws.CopyOwn
import Derived.Laws.ResultCell
import Derived.Test.YtmjjenemokojjaaGreatD42
import Derived.WalkMore
import Derived.Laws.Tables
import Derived.Test.YtmjjenemokojjaaGreatD48
import Derived.Test.YtmjjenemokojjaaGreatD47
namespace Go.Proofs.YtmjjenemokojjaaGreat
open Go.RowKit Go.ChangeShapes
set_option maxRecDepth 100000
set_option linter.unusedSimpArgs false
set_option linter.unusedVariables false

theorem results_row_tmp {P : Program} {fn : Func} {p u : Tmp} {ty : TypeId} (h : fn.results = #[.cell p ty, .tmp u]) (tmps : Array Value) (w : World) (g : Nat) (t : TypeId) (cs : Array Value) (fr : Nat × Nat) (d : TypeDesc)
 (hp : tmps.getD p undef = .pointer (some ⟨g, 0, none⟩)) (v : Value) (hv : tmps.getD u undef = v) (hg : w.heap[g]? = some (.cells cs t fr))
 (hu : P.underlying ty = some d) (hd : (match d with | .struct _ | .array _ _ => true | _ => false) = true) (hi : (P.info? ty).map (·.size) = some cs.size) :
 (results fn tmps).run P w = .ok (.tuple #[.agg cs, v]) w := by
 rw [results_cell_tmp h, hp, hv]
 simp [asAddr, run_loadVar_row w g t ty cs fr d hg hu hd hi, Result.andThen]
theorem zeroCmd_is : zeroCmd = zeroCmd := rfl
theorem wpList_load_rowG {P : Program} {ops : Array Oper} {rest : List Oper} {o : Oper} {a : Act} {w : World} {Q : Exit → Act → World → Prop} (hw : Region.wanted o (yielded ops a.tmps) = true) (ty : TypeId) (x : Operand) (ho : o.op = .load ty x)
 (g : Nat) (hx : a.eval x = .pointer (some ⟨g, 0, none⟩)) (t : TypeId) (cs : Array Value) (fr : Nat × Nat) (d : TypeDesc) (hg : w.heap[g]? = some (.cells cs t fr))
 (hu : P.underlying ty = some d) (hd : (match d with | .struct _ | .array _ _ => true | _ => false) = true) (hi : (P.info? ty).map (·.size) = some cs.size)
 (h : wpList P ops Q rest (a.put o.dst (.agg cs)) w) : wpList P ops Q (o :: rest) a w :=
 wpList_step fun K hK => by rw [if_pos hw]; exact wp_load_row ty x ho g hx t cs fr d hg hu hd hi (hK _ _ h)
def DecNo (w : World) (e : Ending) (w1 : World) : Prop := e = .returned (.tuple #[.agg zeroCmd, .int .i64 10]) ∧ Below w.heap.size w w1
def DecYes (w : World) (cs : Option Addr → Nat → Array Value) (L : List LineV) (e : Ending) (w1 : World) : Prop :=
 ∃ A c, e = .returned (.tuple #[.agg (cs A c), .int .i64 0]) ∧ RowLineV w1 A L ∧ (A = none → L = [] ∧ c = 0) ∧ L.length ≤ c ∧ c ≤ maxLen ∧ Below w.heap.size w w1
theorem row_setRow {w : World} {A : Option Addr} {L : List LineV} {g : Nat} {cs : Array Value} (h : RowLineV w A L) (hA : ∀ a, A = some a → a.block ≠ g) : RowLineV (w.setRow g cs) A L := fun hn => by
 obtain ⟨b, o, e, hl, hr⟩ := h hn
 refine ⟨b, o, e, by simpa [World.setRow] using hl, fun j v hv => ?_⟩
 have hb : b ≠ g := hA _ e
 exact (World.cell?_of_block (a := ⟨b, o + j, none⟩) (setRow_other w g b cs hb)).trans (hr j v hv)
set_option maxHeartbeats 4000000 in
theorem decode_bad (T : Text) (A0 : Option Addr) (cap : Nat) (cs : Option Addr → Nat → Array Value) (L : List LineV) (s1 : Bool × Text) (w : World) (hm : T.length ≤ 140737488351232) (hT : Txt w A0 T) (hA : A0 = none → T = []) (HRd : Hid (∀ (W : World) (g : Nat), Below w.heap.size w W → Rdr W g false T → Calls Tryz.prog 45 #[.pointer (some ⟨g, 0, none⟩)] W fun e w1 => ∃ A c, e = .returned (.agg (cs A c)) ∧ OwnLineV w1 W.heap.size (.slice A L.length c) L ∧ RS W w1 g s1)) (HC : Hid (∀ A c, (cs A c).size = 22 ∧ (cs A c).all (·.oneCell') = true)) (hb : s1.1 = true ∨ s1.2 ≠ []) : Calls Tryz.prog 16 #[.slice A0 T.length cap] w fun e w1 => DecNo w e w1 := by
 have HT := Lib.hid (hT.alloc (.cells zeroCmd 28))
 have HZ := Lib.hid (heap_alloc_new w (.cells zeroCmd 28))
 have HB0 := Lib.hid (below_alloc w (.cells zeroCmd 28))
 have HG : Hid (w.heap.size < (w.alloc (.cells zeroCmd 28)).heap.size) := Lib.hid (by simp)
 have HM := Lib.hid (And.intro hm hA)
 have HD : Hid (∀ (W : World) (g : Nat), Rdr W g s1.1 s1.2 → Calls Tryz.prog 46 #[.pointer (some ⟨g, 0, none⟩)] W fun e w' => e = .returned (.int .i64 10) ∧ W = w') := Lib.hid (fun W g h => (code_done W g s1.1 s1.2 h).mono fun e w' q => ⟨by rw [q.1]; rw [if_pos hb], q.2⟩)
 have HO1 : Hid (zeroCmd.all (·.oneCell') = true) := Lib.hid (by simp [Value.oneCell'])
 clear hm hT hA hb
 go_enter Tryz.func16, Tryz.ntmps16
 go_upto_region 1 with fail
 generalize World.alloc w _ = w0 at HT HZ HB0 HG ⊢
 have HZ' : Hid (w0.heap[w.heap.size]? = some (.cells zeroCmd 28 (0, 0))) := HZ
 clear HZ
 go_wp2_with (go_at_call 44; refine (code_open T A0 cap _ HM.out.1 HT.out HM.out.2).mono ?_; rintro e w1 ⟨g, hg1, hg2, rfl, hr, hb⟩; have HR1 := Lib.hid hr; have HB1 := Lib.hid (below_then HB0.out hb); have HZ1 := Lib.hid (heap_on hb HZ'.out); have HG1 : Hid (w.heap.size < g) := Lib.hid (by have := HG.out; omega); clear hg1 hg2 hr hb; refine Stop.out ?_)
 unfold Stop
 clear HZ' HT HB0
 go_wp2_with (go_at_call 45; refine (HRd.out w1 g HB1.out HR1.out).mono ?_; rintro e w2 ⟨A2, c2, rfl, how, hrs⟩; have HOW := Lib.hid how; have HRS := Lib.hid hrs; have HB2 : Hid (Below w.heap.size w w2) := Lib.hid (HB1.out.trans (hrs.below (Nat.le_of_lt HG1.out))); have HZ2 := Lib.hid ((hrs.2.1.block w.heap.size (heapLt HZ1.out) (Nat.ne_of_lt HG1.out)).trans HZ1.out); clear how hrs; refine Stop.out ?_)
 unfold Stop
 clear HR1 HB1 HZ1
 have HCV := Lib.hid (HC.out A2 c2)
 generalize hcv : cs A2 c2 = cv at HCV ⊢
 have HCE : Hid (cs A2 c2 = cv) := Lib.hid hcv
 clear hcv HC
 have HX := Lib.hid (heap_alloc_new w2 (.cells zeroCmd 28))
 have HBn := Lib.hid (below_setRow (below_alloc w2 (.cells zeroCmd 28)) (Nat.le_refl w2.heap.size) cv)
 have HX3 := Lib.hid (setRow_heap (w2.alloc (.cells zeroCmd 28)) w2.heap.size _ cv _ _ HX.out)
 have HSZ : Hid (zeroCmd.size = cv.size) := Lib.hid HCV.out.1.symm
 have HI := Lib.hid (cmd_info HCV.out.1)
 go_wp2_with ((with_reducible refine wpList_store_row (o := ⟨none, _, _, _, _, _⟩) ?b1 28 (.tmp 5) (.tmp 9) ?b2 w2.heap.size cv ?b3 ?b4 28 zeroCmd HX.out ?b5 ?b6 ?b7 ?_); (case b1 => rfl); (case b2 => rfl); (case b3 => rfl); (case b4 => rfl); (case b5 => exact HI.out); (case b6 => exact HSZ.out); (case b7 => exact HCV.out.2); refine Stop.out ?_)
 unfold Stop
 generalize World.setRow _ _ _ = w3 at HBn HX3 ⊢
 have HZ3 := Lib.hid (heap_on HBn.out HZ2.out)
 have HOW3 := Lib.hid (HOW.out.on HBn.out)
 have HR3 := Lib.hid (HRS.out.1.on HBn.out)
 have HB3 := Lib.hid (below_then HB2.out HBn.out)
 clear HX HBn HZ2 HOW HRS HB2
 generalize w2.heap.size = bb at HX3 ⊢
 go_wp2_with (go_at_call 46; refine (HD.out w3 g HR3.out).mono ?_; rintro e w4 ⟨rfl, rfl⟩; refine Stop.out ?_)
 unfold Stop
 go_wp2_with ((with_reducible refine wpList_store_row (o := ⟨none, _, _, _, _, _⟩) ?b1 28 (.tmp 2) (.tmp 18) ?b2 w.heap.size zeroCmd ?b3 ?b4 28 zeroCmd HZ3.out ?b5 ?b6 ?b7 ?_); (case b1 => rfl); (case b2 => rfl); (case b3 => rfl); (case b4 => rfl); (case b5 => exact cells_info'); (case b6 => rfl); (case b7 => exact HO1.out); refine Stop.out ?_)
 unfold Stop
 have HP9 := Lib.hid (setRow_heap w3 w.heap.size _ (zeroCmd) _ _ HZ3.out)
 go_wp2
 exact bodyPost_ret (v := .tuple #[.agg (zeroCmd), .int .i64 10]) (results_row_tmp Tryz.results16 _ _ w.heap.size 28 (zeroCmd) (0, 0) _ rfl _ rfl HP9.out Tryz.underlying28 rfl cells_info') rfl ⟨rfl, below_setRow HB3.out (Nat.le_refl _) _⟩
set_option maxHeartbeats 4000000 in
theorem decode_no (T : Text) (A0 : Option Addr) (cap : Nat) (cs : Option Addr → Nat → Array Value) (L : List LineV) (s1 : Bool × Text) (w : World) (hm : T.length ≤ 140737488351232) (hT : Txt w A0 T) (hA : A0 = none → T = []) (HRd : Hid (∀ (W : World) (g : Nat), Below w.heap.size w W → Rdr W g false T → Calls Tryz.prog 45 #[.pointer (some ⟨g, 0, none⟩)] W fun e w1 => ∃ A c, e = .returned (.agg (cs A c)) ∧ OwnLineV w1 W.heap.size (.slice A L.length c) L ∧ RS W w1 g s1)) (HC : Hid (∀ A c, (cs A c).size = 22 ∧ (cs A c).all (·.oneCell') = true)) (hb : s1 = (false, [])) (HGd : Hid (∀ (W : World) (A : Option Addr) (c : Nat), Below w.heap.size w W → RowLineV W A L → (A = none → L = [] ∧ c = 0) → L.length ≤ c → c ≤ maxLen → Calls Tryz.prog 8 #[.agg (cs A c)] W fun e w1 => e = .returned (.bool false) ∧ Below W.heap.size W w1)) : Calls Tryz.prog 16 #[.slice A0 T.length cap] w fun e w1 => DecNo w e w1 := by
 have HT := Lib.hid (hT.alloc (.cells zeroCmd 28))
 have HZ := Lib.hid (heap_alloc_new w (.cells zeroCmd 28))
 have HB0 := Lib.hid (below_alloc w (.cells zeroCmd 28))
 have HG : Hid (w.heap.size < (w.alloc (.cells zeroCmd 28)).heap.size) := Lib.hid (by simp)
 have HM := Lib.hid (And.intro hm hA)
 have HD : Hid (∀ (W : World) (g : Nat), Rdr W g s1.1 s1.2 → Calls Tryz.prog 46 #[.pointer (some ⟨g, 0, none⟩)] W fun e w' => e = .returned (.int .i64 0) ∧ W = w') := Lib.hid (fun W g h => (code_done W g s1.1 s1.2 h).mono fun e w' q => ⟨by rw [q.1]; rw [hb]; rfl, q.2⟩)
 have HO1 : Hid (zeroCmd.all (·.oneCell') = true) := Lib.hid (by simp [Value.oneCell'])
 clear hm hT hA hb
 go_enter Tryz.func16, Tryz.ntmps16
 go_upto_region 1 with fail
 generalize World.alloc w _ = w0 at HT HZ HB0 HG ⊢
 have HZ' : Hid (w0.heap[w.heap.size]? = some (.cells zeroCmd 28 (0, 0))) := HZ
 clear HZ
 go_wp2_with (go_at_call 44; refine (code_open T A0 cap _ HM.out.1 HT.out HM.out.2).mono ?_; rintro e w1 ⟨g, hg1, hg2, rfl, hr, hb⟩; have HR1 := Lib.hid hr; have HB1 := Lib.hid (below_then HB0.out hb); have HZ1 := Lib.hid (heap_on hb HZ'.out); have HG1 : Hid (w.heap.size < g) := Lib.hid (by have := HG.out; omega); clear hg1 hg2 hr hb; refine Stop.out ?_)
 unfold Stop
 clear HZ' HT HB0
 go_wp2_with (go_at_call 45; refine (HRd.out w1 g HB1.out HR1.out).mono ?_; rintro e w2 ⟨A2, c2, rfl, how, hrs⟩; have HOW := Lib.hid how; have HRS := Lib.hid hrs; have HB2 : Hid (Below w.heap.size w w2) := Lib.hid (HB1.out.trans (hrs.below (Nat.le_of_lt HG1.out))); have HZ2 := Lib.hid ((hrs.2.1.block w.heap.size (heapLt HZ1.out) (Nat.ne_of_lt HG1.out)).trans HZ1.out); clear how hrs; refine Stop.out ?_)
 unfold Stop
 clear HR1 HB1 HZ1
 have HCV := Lib.hid (HC.out A2 c2)
 generalize hcv : cs A2 c2 = cv at HCV ⊢
 have HCE : Hid (cs A2 c2 = cv) := Lib.hid hcv
 clear hcv HC
 have HX := Lib.hid (heap_alloc_new w2 (.cells zeroCmd 28))
 have HBn := Lib.hid (below_setRow (below_alloc w2 (.cells zeroCmd 28)) (Nat.le_refl w2.heap.size) cv)
 have HX3 := Lib.hid (setRow_heap (w2.alloc (.cells zeroCmd 28)) w2.heap.size _ cv _ _ HX.out)
 have HSZ : Hid (zeroCmd.size = cv.size) := Lib.hid HCV.out.1.symm
 have HI := Lib.hid (cmd_info HCV.out.1)
 go_wp2_with ((with_reducible refine wpList_store_row (o := ⟨none, _, _, _, _, _⟩) ?b1 28 (.tmp 5) (.tmp 9) ?b2 w2.heap.size cv ?b3 ?b4 28 zeroCmd HX.out ?b5 ?b6 ?b7 ?_); (case b1 => rfl); (case b2 => rfl); (case b3 => rfl); (case b4 => rfl); (case b5 => exact HI.out); (case b6 => exact HSZ.out); (case b7 => exact HCV.out.2); refine Stop.out ?_)
 unfold Stop
 generalize World.setRow _ _ _ = w3 at HBn HX3 ⊢
 have HZ3 := Lib.hid (heap_on HBn.out HZ2.out)
 have HOW3 := Lib.hid (HOW.out.on HBn.out)
 have HR3 := Lib.hid (HRS.out.1.on HBn.out)
 have HB3 := Lib.hid (below_then HB2.out HBn.out)
 clear HX HBn HZ2 HOW HRS HB2
 generalize w2.heap.size = bb at HX3 ⊢
 go_wp2_with (go_at_call 46; refine (HD.out w3 g HR3.out).mono ?_; rintro e w4 ⟨rfl, rfl⟩; refine Stop.out ?_)
 unfold Stop
 obtain ⟨A3, c3, q1, q2, q3, q4, q5⟩ := HOW3.out.bounds
 simp only [Value.slice.injEq] at q1
 obtain ⟨rfl, _, rfl⟩ := q1
 have HRow := Lib.hid (And.intro q2 (And.intro q3 (And.intro q4 q5)))
 have HGx : Hid (Calls Tryz.prog 8 #[.agg cv] w3 fun e w1 => e = .returned (.bool false) ∧ Below w3.heap.size w3 w1) := Lib.hid (by rw [← HCE.out]; exact HGd.out _ A2 c2 HB3.out q2 q3 q4 q5)
 clear q2 q3 q4 q5 HGd HOW3
 go_wp2_with ((with_reducible refine wpList_load_rowG (o := ⟨some 14, _, _, _, _, _⟩) ?a0 28 (.tmp 5) ?a1 bb ?a2 28 cv (0, 0) _ HX3.out Tryz.underlying28 ?a4 HI.out ?_); (case a0 => first | rfl | kernel_rfl); (case a1 => rfl); (case a2 => rfl); (case a4 => rfl); refine Stop.out ?_)
 unfold Stop
 go_wp2_with (go_at_call 8; refine HGx.out.mono ?_; rintro e w5 ⟨rfl, hb⟩; have HX5 := Lib.hid (heap_on hb HX3.out); have HZ5 := Lib.hid (heap_on hb HZ3.out); have HB5 := Lib.hid (below_then HB3.out hb); have HRow5 := Lib.hid (HRow.out.1.on hb); clear hb; refine Stop.out ?_)
 unfold Stop
 go_wp2_with ((with_reducible refine wpList_store_row (o := ⟨none, _, _, _, _, _⟩) ?b1 28 (.tmp 2) (.tmp 18) ?b2 w.heap.size zeroCmd ?b3 ?b4 28 zeroCmd HZ5.out ?b5 ?b6 ?b7 ?_); (case b1 => rfl); (case b2 => rfl); (case b3 => rfl); (case b4 => rfl); (case b5 => exact cells_info'); (case b6 => rfl); (case b7 => exact HO1.out); refine Stop.out ?_)
 unfold Stop
 have HP9 := Lib.hid (setRow_heap w5 w.heap.size _ (zeroCmd) _ _ HZ5.out)
 go_wp2
 exact bodyPost_ret (v := .tuple #[.agg (zeroCmd), .int .i64 10]) (results_row_tmp Tryz.results16 _ _ w.heap.size 28 (zeroCmd) (0, 0) _ rfl _ rfl HP9.out Tryz.underlying28 rfl cells_info') rfl ⟨rfl, below_setRow HB5.out (Nat.le_refl _) _⟩
set_option maxHeartbeats 4000000 in
theorem decode_yes (T : Text) (A0 : Option Addr) (cap : Nat) (cs : Option Addr → Nat → Array Value) (L : List LineV) (s1 : Bool × Text) (w : World) (hm : T.length ≤ 140737488351232) (hT : Txt w A0 T) (hA : A0 = none → T = []) (HRd : Hid (∀ (W : World) (g : Nat), Below w.heap.size w W → Rdr W g false T → Calls Tryz.prog 45 #[.pointer (some ⟨g, 0, none⟩)] W fun e w1 => ∃ A c, e = .returned (.agg (cs A c)) ∧ OwnLineV w1 W.heap.size (.slice A L.length c) L ∧ RS W w1 g s1)) (HC : Hid (∀ A c, (cs A c).size = 22 ∧ (cs A c).all (·.oneCell') = true)) (hb : s1 = (false, [])) (HGd : Hid (∀ (W : World) (A : Option Addr) (c : Nat), Below w.heap.size w W → RowLineV W A L → (A = none → L = [] ∧ c = 0) → L.length ≤ c → c ≤ maxLen → Calls Tryz.prog 8 #[.agg (cs A c)] W fun e w1 => e = .returned (.bool true) ∧ Below W.heap.size W w1)) : Calls Tryz.prog 16 #[.slice A0 T.length cap] w fun e w1 => DecYes w cs L e w1 := by
 have HT := Lib.hid (hT.alloc (.cells zeroCmd 28))
 have HZ := Lib.hid (heap_alloc_new w (.cells zeroCmd 28))
 have HB0 := Lib.hid (below_alloc w (.cells zeroCmd 28))
 have HG : Hid (w.heap.size < (w.alloc (.cells zeroCmd 28)).heap.size) := Lib.hid (by simp)
 have HM := Lib.hid (And.intro hm hA)
 have HD : Hid (∀ (W : World) (g : Nat), Rdr W g s1.1 s1.2 → Calls Tryz.prog 46 #[.pointer (some ⟨g, 0, none⟩)] W fun e w' => e = .returned (.int .i64 0) ∧ W = w') := Lib.hid (fun W g h => (code_done W g s1.1 s1.2 h).mono fun e w' q => ⟨by rw [q.1]; rw [hb]; rfl, q.2⟩)
 have HO1 : Hid (zeroCmd.all (·.oneCell') = true) := Lib.hid (by simp [Value.oneCell'])
 clear hm hT hA hb
 go_enter Tryz.func16, Tryz.ntmps16
 go_upto_region 1 with fail
 generalize World.alloc w _ = w0 at HT HZ HB0 HG ⊢
 have HZ' : Hid (w0.heap[w.heap.size]? = some (.cells zeroCmd 28 (0, 0))) := HZ
 clear HZ
 go_wp2_with (go_at_call 44; refine (code_open T A0 cap _ HM.out.1 HT.out HM.out.2).mono ?_; rintro e w1 ⟨g, hg1, hg2, rfl, hr, hb⟩; have HR1 := Lib.hid hr; have HB1 := Lib.hid (below_then HB0.out hb); have HZ1 := Lib.hid (heap_on hb HZ'.out); have HG1 : Hid (w.heap.size < g) := Lib.hid (by have := HG.out; omega); clear hg1 hg2 hr hb; refine Stop.out ?_)
 unfold Stop
 clear HZ' HT HB0
 go_wp2_with (go_at_call 45; refine (HRd.out w1 g HB1.out HR1.out).mono ?_; rintro e w2 ⟨A2, c2, rfl, how, hrs⟩; have HOW := Lib.hid how; have HRS := Lib.hid hrs; have HB2 : Hid (Below w.heap.size w w2) := Lib.hid (HB1.out.trans (hrs.below (Nat.le_of_lt HG1.out))); have HZ2 := Lib.hid ((hrs.2.1.block w.heap.size (heapLt HZ1.out) (Nat.ne_of_lt HG1.out)).trans HZ1.out); clear how hrs; refine Stop.out ?_)
 unfold Stop
 have HWs : Hid (w.heap.size < w1.heap.size) := Lib.hid (heapLt HZ1.out)
 clear HR1 HB1 HZ1
 have HCV := Lib.hid (HC.out A2 c2)
 generalize hcv : cs A2 c2 = cv at HCV ⊢
 have HCE : Hid (cs A2 c2 = cv) := Lib.hid hcv
 clear hcv HC
 have HX := Lib.hid (heap_alloc_new w2 (.cells zeroCmd 28))
 have HBn := Lib.hid (below_setRow (below_alloc w2 (.cells zeroCmd 28)) (Nat.le_refl w2.heap.size) cv)
 have HX3 := Lib.hid (setRow_heap (w2.alloc (.cells zeroCmd 28)) w2.heap.size _ cv _ _ HX.out)
 have HSZ : Hid (zeroCmd.size = cv.size) := Lib.hid HCV.out.1.symm
 have HI := Lib.hid (cmd_info HCV.out.1)
 go_wp2_with ((with_reducible refine wpList_store_row (o := ⟨none, _, _, _, _, _⟩) ?b1 28 (.tmp 5) (.tmp 9) ?b2 w2.heap.size cv ?b3 ?b4 28 zeroCmd HX.out ?b5 ?b6 ?b7 ?_); (case b1 => rfl); (case b2 => rfl); (case b3 => rfl); (case b4 => rfl); (case b5 => exact HI.out); (case b6 => exact HSZ.out); (case b7 => exact HCV.out.2); refine Stop.out ?_)
 unfold Stop
 generalize World.setRow _ _ _ = w3 at HBn HX3 ⊢
 have HZ3 := Lib.hid (heap_on HBn.out HZ2.out)
 have HOW3 := Lib.hid (HOW.out.on HBn.out)
 have HR3 := Lib.hid (HRS.out.1.on HBn.out)
 have HB3 := Lib.hid (below_then HB2.out HBn.out)
 clear HX HBn HZ2 HOW HRS HB2
 generalize w2.heap.size = bb at HX3 ⊢
 go_wp2_with (go_at_call 46; refine (HD.out w3 g HR3.out).mono ?_; rintro e w4 ⟨rfl, rfl⟩; refine Stop.out ?_)
 unfold Stop
 obtain ⟨A3, c3, q1, q2, q3, q4, q5⟩ := HOW3.out.bounds
 simp only [Value.slice.injEq] at q1
 obtain ⟨rfl, _, rfl⟩ := q1
 have HRow := Lib.hid (And.intro q2 (And.intro q3 (And.intro q4 q5)))
 have HGx : Hid (Calls Tryz.prog 8 #[.agg cv] w3 fun e w1 => e = .returned (.bool true) ∧ Below w3.heap.size w3 w1) := Lib.hid (by rw [← HCE.out]; exact HGd.out _ A2 c2 HB3.out q2 q3 q4 q5)
 have HAp : Hid (∀ a, A2 = some a → w.heap.size < a.block) := Lib.hid (fun a e => by subst e; have h1 := (HOW3.out.block a.block rfl).1; have := HWs.out; omega)
 clear q2 q3 q4 q5 HGd HOW3
 go_wp2_with ((with_reducible refine wpList_load_rowG (o := ⟨some 14, _, _, _, _, _⟩) ?a0 28 (.tmp 5) ?a1 bb ?a2 28 cv (0, 0) _ HX3.out Tryz.underlying28 ?a4 HI.out ?_); (case a0 => first | rfl | kernel_rfl); (case a1 => rfl); (case a2 => rfl); (case a4 => rfl); refine Stop.out ?_)
 unfold Stop
 go_wp2_with (go_at_call 8; refine HGx.out.mono ?_; rintro e w5 ⟨rfl, hb⟩; have HX5 := Lib.hid (heap_on hb HX3.out); have HZ5 := Lib.hid (heap_on hb HZ3.out); have HB5 := Lib.hid (below_then HB3.out hb); have HRow5 := Lib.hid (HRow.out.1.on hb); clear hb; refine Stop.out ?_)
 unfold Stop
 go_wp2_with ((with_reducible refine wpList_load_row (o := ⟨some 19, _, _, _, _, _⟩) ?a1 28 (.tmp 5) ?a2 bb ?a3 28 cv (0, 0) _ HX5.out Tryz.underlying28 ?a4 HI.out ?_); (case a1 => rfl); (case a2 => rfl); (case a3 => rfl); (case a4 => rfl); refine Stop.out ?_)
 unfold Stop
 have HSZ9 : Hid (zeroCmd.size = cv.size) := Lib.hid HSZ.out
 go_wp2_with ((with_reducible refine wpList_store_row (o := ⟨none, _, _, _, _, _⟩) ?b1 28 (.tmp 2) (.tmp 19) ?b2 w.heap.size cv ?b3 ?b4 28 zeroCmd HZ5.out ?b5 ?b6 ?b7 ?_); (case b1 => rfl); (case b2 => rfl); (case b3 => rfl); (case b4 => rfl); (case b5 => exact HI.out); (case b6 => exact HSZ9.out); (case b7 => exact HCV.out.2); refine Stop.out ?_)
 unfold Stop
 have HP9 := Lib.hid (setRow_heap w5 w.heap.size _ cv _ _ HZ5.out)
 go_wp2
 refine bodyPost_ret (v := .tuple #[.agg cv, .int .i64 0]) (results_row_tmp Tryz.results16 _ _ w.heap.size 28 cv (0, 0) _ rfl _ rfl HP9.out Tryz.underlying28 rfl HI.out) rfl ⟨A2, c2, by rw [HCE.out], ?_, HRow.out.2.1, HRow.out.2.2.1, HRow.out.2.2.2, below_setRow HB5.out (Nat.le_refl _) cv⟩
 exact row_setRow HRow5.out (fun A e => by have := HAp.out A e; omega)
end Go.Proofs.YtmjjenemokojjaaGreat

namespace Go.Proofs.YtmjjenemokojjaaGreat
open Go.RowKit
set_option maxRecDepth 100000
set_option linter.unusedSimpArgs false
set_option linter.unusedVariables false

theorem cells_info : (Tryz.prog.info? 28).map (·.size) = some 22 := by kernel_rfl
def SimpleP (w : World) (e : Ending) (w1 : World) : Prop := ∃ A : Addr, e = .returned (.agg #[.int .i64 8, .string ⟨#[]⟩, .string ⟨#[]⟩, .int .i64 0, .int .i64 0, .int .i64 0, .int .i64 0, .int .i64 0, .int .i64 0, .int .i64 0, .int .i64 0, .int .i64 0, .int .i64 0, .string ⟨#[97]⟩, .bool true, .bool false, .string ⟨#[]⟩, .int .i64 19000, .string ⟨#[68, 69]⟩, .string ⟨#[]⟩, .string ⟨#[]⟩, .slice (some A) 1 1]) ∧ Below w.heap.size w w1 ∧ RowLineV w1 (some A) [simpleL] ∧ A.block < w1.heap.size
set_option maxHeartbeats 2000000 in
theorem code_simple  (w : World) : Calls Tryz.prog 19 #[] w fun e w1 => SimpleP w e w1 := by
 have h0 := heap_on (below_alloc (w.alloc (.cells zeroCmd 28)) (.cells #[.int .i64 2, .int .i64 1, .string ⟨#[]⟩, .string ⟨#[]⟩, .string ⟨#[]⟩, .int .i64 1000, .bool false, .int .i64 0, .bool false] 30)) (heap_alloc_new w (.cells zeroCmd 28))
 have h1 := heap_alloc_new (w.alloc (.cells zeroCmd 28)) (.cells #[.int .i64 2, .int .i64 1, .string ⟨#[]⟩, .string ⟨#[]⟩, .string ⟨#[]⟩, .int .i64 1000, .bool false, .int .i64 0, .bool false] 30)
 simp only [World.size_alloc] at h1
 have H0 := Lib.hid h0
 have H1 := Lib.hid h1
 have HW := Lib.hid (show Below w.heap.size w ((w.alloc (.cells zeroCmd 28)).alloc (.cells #[.int .i64 2, .int .i64 1, .string ⟨#[]⟩, .string ⟨#[]⟩, .string ⟨#[]⟩, .int .i64 1000, .bool false, .int .i64 0, .bool false] 30)) from below_more (below_alloc _ _))
 have HO := Lib.hid (show (#[.int .i64 8, .string ⟨#[]⟩, .string ⟨#[]⟩, .int .i64 0, .int .i64 0, .int .i64 0, .int .i64 0, .int .i64 0, .int .i64 0, .int .i64 0, .int .i64 0, .int .i64 0, .int .i64 0, .string ⟨#[97]⟩, .bool true, .bool false, .string ⟨#[]⟩, .int .i64 19000, .string ⟨#[68, 69]⟩, .string ⟨#[]⟩, .string ⟨#[]⟩, .slice (some ⟨w.heap.size + 1, 0, none⟩) 1 1] : Array Value).all (·.oneCell') = true by simp [Value.oneCell'])
 clear h0 h1
 go_enter Tryz.func19, Tryz.ntmps19
 go_wp2_with ((with_reducible refine wpList_store_row (o := ⟨none, _, _, _, _, _⟩) ?b1 28 (.tmp 0) (.tmp 4) ?b2 w.heap.size #[.int .i64 8, .string ⟨#[]⟩, .string ⟨#[]⟩, .int .i64 0, .int .i64 0, .int .i64 0, .int .i64 0, .int .i64 0, .int .i64 0, .int .i64 0, .int .i64 0, .int .i64 0, .int .i64 0, .string ⟨#[97]⟩, .bool true, .bool false, .string ⟨#[]⟩, .int .i64 19000, .string ⟨#[68, 69]⟩, .string ⟨#[]⟩, .string ⟨#[]⟩, .slice (some ⟨w.heap.size + 1, 0, none⟩) 1 1] ?b3 ?b4 28 zeroCmd ?b7 ?b6 ?b5 ?b8 ?_); (case b1 => rfl); (case b2 => rfl); (case b3 => rfl); (case b4 => rfl); (case b7 => exact H0.out); (case b6 => exact cells_info); (case b5 => rfl); (case b8 => exact HO.out); have HP9 := Lib.hid (setRow_heap ((w.alloc (.cells zeroCmd 28)).alloc (.cells #[.int .i64 2, .int .i64 1, .string ⟨#[]⟩, .string ⟨#[]⟩, .string ⟨#[]⟩, .int .i64 1000, .bool false, .int .i64 0, .bool false] 30)) w.heap.size _ #[.int .i64 8, .string ⟨#[]⟩, .string ⟨#[]⟩, .int .i64 0, .int .i64 0, .int .i64 0, .int .i64 0, .int .i64 0, .int .i64 0, .int .i64 0, .int .i64 0, .int .i64 0, .int .i64 0, .string ⟨#[97]⟩, .bool true, .bool false, .string ⟨#[]⟩, .int .i64 19000, .string ⟨#[68, 69]⟩, .string ⟨#[]⟩, .string ⟨#[]⟩, .slice (some ⟨w.heap.size + 1, 0, none⟩) 1 1] _ _ H0.out); have HL9 := Lib.hid ((setRow_other ((w.alloc (.cells zeroCmd 28)).alloc (.cells #[.int .i64 2, .int .i64 1, .string ⟨#[]⟩, .string ⟨#[]⟩, .string ⟨#[]⟩, .int .i64 1000, .bool false, .int .i64 0, .bool false] 30)) w.heap.size (w.heap.size + 1) #[.int .i64 8, .string ⟨#[]⟩, .string ⟨#[]⟩, .int .i64 0, .int .i64 0, .int .i64 0, .int .i64 0, .int .i64 0, .int .i64 0, .int .i64 0, .int .i64 0, .int .i64 0, .int .i64 0, .string ⟨#[97]⟩, .bool true, .bool false, .string ⟨#[]⟩, .int .i64 19000, .string ⟨#[68, 69]⟩, .string ⟨#[]⟩, .string ⟨#[]⟩, .slice (some ⟨w.heap.size + 1, 0, none⟩) 1 1] (by omega)).trans H1.out); have HB9 := Lib.hid (below_setRow HW.out (g := w.heap.size) (by omega) #[.int .i64 8, .string ⟨#[]⟩, .string ⟨#[]⟩, .int .i64 0, .int .i64 0, .int .i64 0, .int .i64 0, .int .i64 0, .int .i64 0, .int .i64 0, .int .i64 0, .int .i64 0, .int .i64 0, .string ⟨#[97]⟩, .bool true, .bool false, .string ⟨#[]⟩, .int .i64 19000, .string ⟨#[68, 69]⟩, .string ⟨#[]⟩, .string ⟨#[]⟩, .slice (some ⟨w.heap.size + 1, 0, none⟩) 1 1]); refine Stop.out ?_)
 unfold Stop
 generalize hx : World.setRow ((w.alloc (.cells zeroCmd 28)).alloc (.cells #[.int .i64 2, .int .i64 1, .string ⟨#[]⟩, .string ⟨#[]⟩, .string ⟨#[]⟩, .int .i64 1000, .bool false, .int .i64 0, .bool false] 30)) w.heap.size _ = w9 at HP9 HL9 HB9 ⊢
 clear hx H0 H1 HW
 go_wp2
 exact bodyPost_ret (v := .agg #[.int .i64 8, .string ⟨#[]⟩, .string ⟨#[]⟩, .int .i64 0, .int .i64 0, .int .i64 0, .int .i64 0, .int .i64 0, .int .i64 0, .int .i64 0, .int .i64 0, .int .i64 0, .int .i64 0, .string ⟨#[97]⟩, .bool true, .bool false, .string ⟨#[]⟩, .int .i64 19000, .string ⟨#[68, 69]⟩, .string ⟨#[]⟩, .string ⟨#[]⟩, .slice (some ⟨w.heap.size + 1, 0, none⟩) 1 1]) (results_cell_row Tryz.results19 _ _ w.heap.size 28 #[.int .i64 8, .string ⟨#[]⟩, .string ⟨#[]⟩, .int .i64 0, .int .i64 0, .int .i64 0, .int .i64 0, .int .i64 0, .int .i64 0, .int .i64 0, .int .i64 0, .int .i64 0, .int .i64 0, .string ⟨#[97]⟩, .bool true, .bool false, .string ⟨#[]⟩, .int .i64 19000, .string ⟨#[68, 69]⟩, .string ⟨#[]⟩, .string ⟨#[]⟩, .slice (some ⟨w.heap.size + 1, 0, none⟩) 1 1] (0, 0) _ rfl HP9.out Tryz.underlying28 rfl cells_info) rfl ⟨⟨w.heap.size + 1, 0, none⟩, rfl, HB9.out, boxLineV (p := simpleL) HL9.out, heapLt HL9.out⟩
end Go.Proofs.YtmjjenemokojjaaGreat

namespace Go.Proofs.YtmjjenemokojjaaGreat
open Go.RowKit
set_option maxRecDepth 100000
set_option linter.unusedSimpArgs false
set_option linter.unusedVariables false

/-- a command's document, its lines elsewhere -/
def at8 (x : CmdV) (A : Option Addr) (c : Nat) : CmdV := ⟨x.kind, ⟨#[]⟩, ⟨#[]⟩, 0, 0, 0, 0, 0, 0, 0, 0, 0, 0, x.id, x.sale, x.credit, x.refers, x.day, x.country, x.number, x.currency, A, x.lines, c⟩
theorem at8_ok {w W : World} {x : CmdV} (h : CmdVOk w x) {A : Option Addr} {c : Nat} (hr : RowLineV W A x.lines) (hA : A = none → x.lines = [] ∧ c = 0) (hc : x.lines.length ≤ c) (hm : c ≤ maxLen) : CmdVOk W (at8 x A c) := by
 obtain ⟨s0, s1, s2, s3, s4, s5, s6, r, a, lc, cm, g⟩ := h
 exact ⟨nil_size, nil_size, s2, s3, s4, s5, s6, hr, hA, hc, hm, g⟩
theorem gon_1 {x : CmdV} (hk : x.kind = 1) (hg : goodC x = true) : goodC (on1 x) = true := by
 have h := (good_is_1 hk hg).1
 rw [goodC_1 (x := on1 x) hk]
 refine Bool.and_eq_true_iff.2 ⟨h, ?_⟩
 simp [sameC, sameD, docOf, on1, un1, kindX, likes]
theorem gon_2 {x : CmdV} (hk : x.kind = 2) (hg : goodC x = true) : goodC (on2 x) = true := by
 have h := (good_is_2 hk hg).1
 rw [goodC_2 (x := on2 x) hk]
 refine Bool.and_eq_true_iff.2 ⟨h, ?_⟩
 simp [sameC, sameD, docOf, on2, un2, kindX, likes]
theorem gon_3 {x : CmdV} (hk : x.kind = 3) (hg : goodC x = true) : goodC (on3 x) = true := by
 have h := (good_is_3 hk hg).1
 rw [goodC_3 (x := on3 x) hk]
 refine Bool.and_eq_true_iff.2 ⟨h, ?_⟩
 simp [sameC, sameD, docOf, on3, un3, kindX, likes]
theorem gon_4 {x : CmdV} (hk : x.kind = 4) (hg : goodC x = true) : goodC (on4 x) = true := by
 have h := (good_is_4 hk hg).1
 rw [goodC_4 (x := on4 x) hk]
 refine Bool.and_eq_true_iff.2 ⟨h, ?_⟩
 simp [sameC, sameD, docOf, on4, un4, kindX, likes]
theorem gon_5 {x : CmdV} (hk : x.kind = 5) (hg : goodC x = true) : goodC (on5 x) = true := by
 have h := (good_is_5 hk hg).1
 rw [goodC_5 (x := on5 x) hk]
 refine Bool.and_eq_true_iff.2 ⟨h, ?_⟩
 simp [sameC, sameD, docOf, on5, un5, kindX, likes]
theorem gon_6 {x : CmdV} (hk : x.kind = 6) (hg : goodC x = true) : goodC (on6 x) = true := by
 have h := (good_is_6 hk hg).1
 rw [goodC_6 (x := on6 x) hk]
 refine Bool.and_eq_true_iff.2 ⟨h, ?_⟩
 simp [sameC, sameD, docOf, on6, un6, kindX, likes]
theorem gon_7 {x : CmdV} (hk : x.kind = 7) (hg : goodC x = true) : goodC (on7 x) = true := by
 have h := (good_is_7 hk hg).1
 rw [goodC_7 (x := on7 x) hk]
 refine Bool.and_eq_true_iff.2 ⟨h, ?_⟩
 simp [sameC, sameD, docOf, on7, un7, kindX, likes]
theorem gon_8 {x : CmdV} (hk : x.kind = 8) (hg : goodC x = true) (A : Option Addr) (c : Nat) : goodC (at8 x A c) = true := by
 have h := (good_is_8 hk hg).1
 rw [goodC_8 (x := at8 x A c) hk]
 refine Bool.and_eq_true_iff.2 ⟨h, ?_⟩
 simp [sameC, sameD, docOf, at8, un8, kindX, likes]
theorem gon_9 {x : CmdV} (hk : x.kind = 9) (hg : goodC x = true) : goodC (on9 x) = true := by
 have h := (good_is_9 hk hg).1
 rw [goodC_9 (x := on9 x) hk]
 refine Bool.and_eq_true_iff.2 ⟨h, ?_⟩
 simp [sameC, sameD, docOf, on9, un9, kindX, likes]
theorem gon_10 {x : CmdV} (hk : x.kind = 10) (hg : goodC x = true) : goodC (on10 x) = true := by
 have h := (good_is_10 hk hg).1
 rw [goodC_10 (x := on10 x) hk]
 refine Bool.and_eq_true_iff.2 ⟨h, ?_⟩
 simp [sameC, sameD, docOf, on10, un10, kindX, likes]
theorem gon_11 {x : CmdV} (hk : x.kind = 11) (hg : goodC x = true) : goodC (on11 x) = true := by
 have h := (good_is_11 hk hg).1
 rw [goodC_11 (x := on11 x) hk]
 refine Bool.and_eq_true_iff.2 ⟨h, ?_⟩
 simp [sameC, sameD, docOf, on11, un11, kindX, likes]
end Go.Proofs.YtmjjenemokojjaaGreat

namespace Go.Proofs.YtmjjenemokojjaaGreat
open Go.RowKit
set_option maxRecDepth 100000
set_option linter.unusedSimpArgs false
set_option linter.unusedVariables false

theorem dcX_good (s : Bool × Text) (A : Option Addr) (c : Nat) : goodC (dcX s A c) = goodC (dcX s none 0) := by
 rcases rd_cases (numV s) with h | h | h | h | h | h | h | h | h | h | h | h
 · rw [dcX_1 h, dcX_1 h]; rfl
 · rw [dcX_2 h, dcX_2 h]; rfl
 · rw [dcX_3 h, dcX_3 h]; rfl
 · rw [dcX_4 h, dcX_4 h]; rfl
 · rw [dcX_5 h, dcX_5 h]; rfl
 · rw [dcX_6 h, dcX_6 h]; rfl
 · rw [dcX_7 h, dcX_7 h]; rfl
 · rw [dcX_8 h, dcX_8 h, goodC_8 (x := dcX8 s A c) rfl, goodC_8 (x := dcX8 s none 0) rfl]; rfl
 · rw [dcX_9 h, dcX_9 h]; rfl
 · rw [dcX_10 h, dcX_10 h]; rfl
 · rw [dcX_11 h, dcX_11 h]; rfl
 · rw [dcX_0 h, dcX_0 h]; rfl
theorem rd_few {s : Bool × Text} {A : Option Addr} {c : Nat} (hg : goodC (dcX8 s A c) = true) : numV (headS (numS s)) ≤ 64 := by
 have hd := (good_is_8 (x := dcX8 s A c) rfl hg).1
 unfold docGood at hd
 simp only [Bool.and_eq_true] at hd
 have hid := hd.1.1.1.1.1.1.1.1
 clear hd hg
 unfold inB docOf dcX8 at hid
 simp only [Bool.and_eq_true, decide_eq_true_eq] at hid
 by_cases h64 : 64 < numV (headS (numS s))
 · have e : docR (numS s) = (noHead, [], numS (headS (numS s))) := by unfold docR; rw [if_pos h64]
   rw [e] at hid
   have hz : (1 : Int) ≤ ((0 : Nat) : Int) := hid.1
   omega
 · omega
theorem rd_back8 {s : Bool × Text} {A : Option Addr} {c : Nat} (hk : numV s = 8) (h : dcS8 s = (false, [])) (hg : goodC (dcX8 s A c) = true) : s = (false, encT (dcX8 s A c)) := by
 have hd := (good_is_8 (x := dcX8 s A c) rfl hg).1
 unfold dcS8 at h
 unfold encT
 rw [bodyT_8 (x := dcX8 s A c) rfl]
 unfold docGood at hd
 simp only [Bool.and_eq_true] at hd
 have hid := hd.1.1.1.1.1.1.1.1
 have hln := hd.1.2
 clear hd hg
 unfold inB docOf dcX8 at hid hln
 simp only [Bool.and_eq_true, decide_eq_true_eq] at hid hln
 have e8 : (dcX8 s A c).kind = 8 := rfl
 rw [e8]
 have eh : headW (docOf (dcX8 s A c)) (linesW (dcX8 s A c).lines []) = sB (docR (numS s)).1.1 ++ (flagT (docR (numS s)).1.2.1 ++ (flagT (docR (numS s)).1.2.2.1 ++ (sB (docR (numS s)).1.2.2.2.1 ++ (nB (docR (numS s)).1.2.2.2.2.1 ++ (sB (docR (numS s)).1.2.2.2.2.2.1 ++ (sB (docR (numS s)).1.2.2.2.2.2.2.1 ++ (sB (docR (numS s)).1.2.2.2.2.2.2.2 ++ (nB ((docR (numS s)).2.1.length : Nat) ++ linesW (docR (numS s)).2.1 [])))))))) := rfl
 rw [eh]
 by_cases h64 : 64 < numV (headS (numS s))
 · have e : docR (numS s) = (noHead, [], numS (headS (numS s))) := by unfold docR; rw [if_pos h64]
   rw [e] at hid
   have hz : (1 : Int) ≤ ((0 : Nat) : Int) := hid.1
   omega
 · have e : docR (numS s) = (headV (numS s), (linesR (numV (headS (numS s))).toNat (numS (headS (numS s)))).1, (linesR (numV (headS (numS s))).toNat (numS (headS (numS s)))).2) := by unfold docR; rw [if_neg h64]
   rw [e] at h hln ⊢
   simp only at h hln ⊢
   have hl := (lines_step _ _ _ h).1
   have hm := linesR_len (numV (headS (numS s))).toNat (numS (headS (numS s)))
   generalize (linesR (numV (headS (numS s))).toNat (numS (headS (numS s)))).1 = L at hl hm hln ⊢
   have em : ((L.length : Nat) : Int) = numV (headS (numS s)) := by omega
   rw [em]
   have a9 := (num_step hl).1
   unfold headS at a9
   have a8 := (text_step a9).1
   have a7 := (text_step a8).1
   have a6 := (text_step a7).1
   have a5 := (num_step a6).1
   have a4 := (text_step a5).1
   have a3 := flag_step a4
   have a2 := flag_step a3
   have a1 := (text_step a2).1
   have a0 := (num_step a1).1
   rw [hk] at a0
   exact a0
/-- what is read whole, and may be, has just the bytes that were read -/
theorem rd_back {s : Bool × Text} {A : Option Addr} {c : Nat} (h : dcS s = (false, [])) (hg : goodC (dcX s A c) = true) : s = (false, encT (dcX s A c)) := by
 rcases rd_cases (numV s) with hk | hk | hk | hk | hk | hk | hk | hk | hk | hk | hk | hk
 · rw [dcX_1 hk]; rw [dcS_1 hk] at h
   unfold dcS1 at h
   replace h := (num_step h).1
   replace h := (num_step h).1
   replace h := (text_step h).1
   replace h := (num_step h).1
   rw [hk] at h
   unfold encT
   rw [bodyT_1 (x := dcX1 s A c) rfl]
   exact h
 · rw [dcX_2 hk]; rw [dcS_2 hk] at h
   unfold dcS2 at h
   replace h := (num_step h).1
   replace h := (num_step h).1
   replace h := (num_step h).1
   replace h := (num_step h).1
   replace h := (text_step h).1
   replace h := (num_step h).1
   rw [hk] at h
   unfold encT
   rw [bodyT_2 (x := dcX2 s A c) rfl]
   exact h
 · rw [dcX_3 hk]; rw [dcS_3 hk] at h
   unfold dcS3 at h
   replace h := (num_step h).1
   replace h := (num_step h).1
   replace h := (num_step h).1
   rw [hk] at h
   unfold encT
   rw [bodyT_3 (x := dcX3 s A c) rfl]
   exact h
 · rw [dcX_4 hk]; rw [dcS_4 hk] at h
   unfold dcS4 at h
   replace h := (num_step h).1
   replace h := (num_step h).1
   replace h := (text_step h).1
   replace h := (text_step h).1
   replace h := (num_step h).1
   rw [hk] at h
   unfold encT
   rw [bodyT_4 (x := dcX4 s A c) rfl]
   exact h
 · rw [dcX_5 hk]; rw [dcS_5 hk] at h
   unfold dcS5 at h
   replace h := (num_step h).1
   replace h := (num_step h).1
   replace h := (num_step h).1
   replace h := (num_step h).1
   replace h := (text_step h).1
   replace h := (num_step h).1
   rw [hk] at h
   unfold encT
   rw [bodyT_5 (x := dcX5 s A c) rfl]
   exact h
 · rw [dcX_6 hk]; rw [dcS_6 hk] at h
   unfold dcS6 at h
   replace h := (text_step h).1
   replace h := (num_step h).1
   rw [hk] at h
   unfold encT
   rw [bodyT_6 (x := dcX6 s A c) rfl]
   exact h
 · rw [dcX_7 hk]; rw [dcS_7 hk] at h
   unfold dcS7 at h
   replace h := (num_step h).1
   replace h := (num_step h).1
   replace h := (num_step h).1
   rw [hk] at h
   unfold encT
   rw [bodyT_7 (x := dcX7 s A c) rfl]
   exact h
 · rw [dcX_8 hk] at hg ⊢; rw [dcS_8 hk] at h; exact rd_back8 hk h hg
 · rw [dcX_9 hk]; rw [dcS_9 hk] at h
   unfold dcS9 at h
   replace h := (num_step h).1
   replace h := (num_step h).1
   replace h := (num_step h).1
   replace h := (num_step h).1
   rw [hk] at h
   unfold encT
   rw [bodyT_9 (x := dcX9 s A c) rfl]
   exact h
 · rw [dcX_10 hk]; rw [dcS_10 hk] at h
   unfold dcS10 at h
   replace h := (num_step h).1
   replace h := (num_step h).1
   replace h := (num_step h).1
   replace h := (num_step h).1
   rw [hk] at h
   unfold encT
   rw [bodyT_10 (x := dcX10 s A c) rfl]
   exact h
 · rw [dcX_11 hk]; rw [dcS_11 hk] at h
   unfold dcS11 at h
   replace h := (num_step h).1
   replace h := (num_step h).1
   rw [hk] at h
   unfold encT
   rw [bodyT_11 (x := dcX11 s A c) rfl]
   exact h
 · rw [dcX_0 hk, goodC_O (x := dcX0 s A c) hk] at hg; cases hg
/-- what may be is read of its bytes -/
theorem rd_enc {x : CmdV} (hg : goodC x = true) : dcS (false, encT x) = (false, []) ∧ goodC (dcX (false, encT x) none 0) = true := by
 have hN : ∀ k : Int, 1 ≤ k → k ≤ 11 → NR k := fun k _ _ => ⟨by omega, by omega⟩
 rcases rd_cases x.kind with hk | hk | hk | hk | hk | hk | hk | hk | hk | hk | hk | hk
 · have hf := fit_1 hk hg
   have e1 : encT x = nB 1 ++ (sB x.state ++ (nB x.index ++ (nB x.from_ ++ []))) := by unfold encT; rw [bodyT_1 hk, hk]
   have hv : numV (false, encT x) = 1 := by rw [e1]; exact numV_doc (hN 1 (by omega) (by omega)) _ _
   rw [dcS_1 hv, dcX_1 hv]
   unfold dcS1 dcX1
   rw [e1]
   simp only [numV_doc (hN 1 (by omega) (by omega)), numS_doc (hN 1 (by omega) (by omega)), textV_doc (hf.1), textS_doc (hf.1), numV_doc (hf.2.1), numS_doc (hf.2.1), numV_doc (hf.2.2), numS_doc (hf.2.2)]
   have h := gon_1 hk hg
   unfold on1 at h
   rw [hk] at h
   exact ⟨trivial, h⟩
 · have hf := fit_2 hk hg
   have e1 : encT x = nB 2 ++ (sB x.state ++ (nB x.category ++ (nB x.from_ ++ (nB x.until_ ++ (nB x.bp ++ []))))) := by unfold encT; rw [bodyT_2 hk, hk]
   have hv : numV (false, encT x) = 2 := by rw [e1]; exact numV_doc (hN 2 (by omega) (by omega)) _ _
   rw [dcS_2 hv, dcX_2 hv]
   unfold dcS2 dcX2
   rw [e1]
   simp only [numV_doc (hN 2 (by omega) (by omega)), numS_doc (hN 2 (by omega) (by omega)), textV_doc (hf.1), textS_doc (hf.1), numV_doc (hf.2.1), numS_doc (hf.2.1), numV_doc (hf.2.2.1), numS_doc (hf.2.2.1), numV_doc (hf.2.2.2.1), numS_doc (hf.2.2.2.1), numV_doc (hf.2.2.2.2), numS_doc (hf.2.2.2.2)]
   have h := gon_2 hk hg
   unfold on2 at h
   rw [hk] at h
   exact ⟨trivial, h⟩
 · have hf := fit_3 hk hg
   have e1 : encT x = nB 3 ++ (nB x.from_ ++ (nB x.until_ ++ [])) := by unfold encT; rw [bodyT_3 hk, hk]
   have hv : numV (false, encT x) = 3 := by rw [e1]; exact numV_doc (hN 3 (by omega) (by omega)) _ _
   rw [dcS_3 hv, dcX_3 hv]
   unfold dcS3 dcX3
   rw [e1]
   simp only [numV_doc (hN 3 (by omega) (by omega)), numS_doc (hN 3 (by omega) (by omega)), numV_doc (hf.1), numS_doc (hf.1), numV_doc (hf.2), numS_doc (hf.2)]
   have h := gon_3 hk hg
   unfold on3 at h
   rw [hk] at h
   exact ⟨trivial, h⟩
 · have hf := fit_4 hk hg
   have e1 : encT x = nB 4 ++ (sB x.state ++ (sB x.text ++ (nB x.from_ ++ (nB x.until_ ++ [])))) := by unfold encT; rw [bodyT_4 hk, hk]
   have hv : numV (false, encT x) = 4 := by rw [e1]; exact numV_doc (hN 4 (by omega) (by omega)) _ _
   rw [dcS_4 hv, dcX_4 hv]
   unfold dcS4 dcX4
   rw [e1]
   simp only [numV_doc (hN 4 (by omega) (by omega)), numS_doc (hN 4 (by omega) (by omega)), textV_doc (hf.1), textS_doc (hf.1), textV_doc (hf.2.1), textS_doc (hf.2.1), numV_doc (hf.2.2.1), numS_doc (hf.2.2.1), numV_doc (hf.2.2.2), numS_doc (hf.2.2.2)]
   have h := gon_4 hk hg
   unfold on4 at h
   rw [hk] at h
   exact ⟨trivial, h⟩
 · have hf := fit_5 hk hg
   have e1 : encT x = nB 5 ++ (sB x.text ++ (nB x.py ++ (nB x.pi ++ (nB x.num ++ (nB x.den ++ []))))) := by unfold encT; rw [bodyT_5 hk, hk]
   have hv : numV (false, encT x) = 5 := by rw [e1]; exact numV_doc (hN 5 (by omega) (by omega)) _ _
   rw [dcS_5 hv, dcX_5 hv]
   unfold dcS5 dcX5
   rw [e1]
   simp only [numV_doc (hN 5 (by omega) (by omega)), numS_doc (hN 5 (by omega) (by omega)), textV_doc (hf.1), textS_doc (hf.1), numV_doc (hf.2.1), numS_doc (hf.2.1), numV_doc (hf.2.2.1), numS_doc (hf.2.2.1), numV_doc (hf.2.2.2.1), numS_doc (hf.2.2.2.1), numV_doc (hf.2.2.2.2), numS_doc (hf.2.2.2.2)]
   have h := gon_5 hk hg
   unfold on5 at h
   rw [hk] at h
   have hq := (per_is (Bool.and_eq_true_iff.1 (Bool.and_eq_true_iff.1 (good_is_5 hk hg).1).2).1)
   rw [hq.1] at h
   exact ⟨trivial, h⟩
 · have hf := fit_6 hk hg
   have e1 : encT x = nB 6 ++ (sB x.text ++ []) := by unfold encT; rw [bodyT_6 hk, hk]
   have hv : numV (false, encT x) = 6 := by rw [e1]; exact numV_doc (hN 6 (by omega) (by omega)) _ _
   rw [dcS_6 hv, dcX_6 hv]
   unfold dcS6 dcX6
   rw [e1]
   simp only [numV_doc (hN 6 (by omega) (by omega)), numS_doc (hN 6 (by omega) (by omega)), textV_doc (hf), textS_doc (hf)]
   have h := gon_6 hk hg
   unfold on6 at h
   rw [hk] at h
   exact ⟨trivial, h⟩
 · have hf := fit_7 hk hg
   have e1 : encT x = nB 7 ++ (nB x.py ++ (nB x.num ++ [])) := by unfold encT; rw [bodyT_7 hk, hk]
   have hv : numV (false, encT x) = 7 := by rw [e1]; exact numV_doc (hN 7 (by omega) (by omega)) _ _
   rw [dcS_7 hv, dcX_7 hv]
   unfold dcS7 dcX7
   rw [e1]
   simp only [numV_doc (hN 7 (by omega) (by omega)), numS_doc (hN 7 (by omega) (by omega)), numV_doc (hf.1), numS_doc (hf.1), numV_doc (hf.2), numS_doc (hf.2)]
   have h := gon_7 hk hg
   unfold on7 at h
   rw [hk] at h
   have hq := per_is (Bool.and_eq_true_iff.1 (good_is_7 hk hg).1).2
   rw [hq.1, hq.2.2.2 rfl] at h
   exact ⟨trivial, h⟩
 · have e1 : encT x = nB 8 ++ headW (docOf x) (linesW (docOf x).lines []) := by unfold encT; rw [bodyT_8 hk, hk]; rfl
   have e2 : docR (numS (false, encT x)) = ((x.id, x.sale, x.credit, x.refers, x.day, x.country, x.number, x.currency), x.lines, (false, [])) := by
    rw [e1, numS_doc (hN 8 (by omega) (by omega))]
    exact docR_doc (fit_8 hk hg) false []
   have hv : numV (false, encT x) = 8 := by rw [e1]; exact numV_doc (hN 8 (by omega) (by omega)) _ _
   rw [dcS_8 hv, dcX_8 hv]
   unfold dcS8 dcX8
   rw [e2]
   have h := gon_8 hk hg none 0
   unfold at8 at h
   rw [hk] at h
   exact ⟨rfl, h⟩
 · have hf := fit_9 hk hg
   have e1 : encT x = nB 9 ++ (nB x.pk ++ (nB x.py ++ (nB x.pi ++ []))) := by unfold encT; rw [bodyT_9 hk, hk]
   have hv : numV (false, encT x) = 9 := by rw [e1]; exact numV_doc (hN 9 (by omega) (by omega)) _ _
   rw [dcS_9 hv, dcX_9 hv]
   unfold dcS9 dcX9
   rw [e1]
   simp only [numV_doc (hN 9 (by omega) (by omega)), numS_doc (hN 9 (by omega) (by omega)), numV_doc (hf.1), numS_doc (hf.1), numV_doc (hf.2.1), numS_doc (hf.2.1), numV_doc (hf.2.2), numS_doc (hf.2.2)]
   have h := gon_9 hk hg
   unfold on9 at h
   rw [hk] at h
   exact ⟨trivial, h⟩
 · have hf := fit_10 hk hg
   have e1 : encT x = nB 10 ++ (nB x.pk ++ (nB x.py ++ (nB x.pi ++ []))) := by unfold encT; rw [bodyT_10 hk, hk]
   have hv : numV (false, encT x) = 10 := by rw [e1]; exact numV_doc (hN 10 (by omega) (by omega)) _ _
   rw [dcS_10 hv, dcX_10 hv]
   unfold dcS10 dcX10
   rw [e1]
   simp only [numV_doc (hN 10 (by omega) (by omega)), numS_doc (hN 10 (by omega) (by omega)), numV_doc (hf.1), numS_doc (hf.1), numV_doc (hf.2.1), numS_doc (hf.2.1), numV_doc (hf.2.2), numS_doc (hf.2.2)]
   have h := gon_10 hk hg
   unfold on10 at h
   rw [hk] at h
   exact ⟨trivial, h⟩
 · have hf := fit_11 hk hg
   have e1 : encT x = nB 11 ++ (nB x.py ++ []) := by unfold encT; rw [bodyT_11 hk, hk]
   have hv : numV (false, encT x) = 11 := by rw [e1]; exact numV_doc (hN 11 (by omega) (by omega)) _ _
   rw [dcS_11 hv, dcX_11 hv]
   unfold dcS11 dcX11
   rw [e1]
   simp only [numV_doc (hN 11 (by omega) (by omega)), numS_doc (hN 11 (by omega) (by omega)), numV_doc (hf), numS_doc (hf)]
   have h := gon_11 hk hg
   unfold on11 at h
   rw [hk] at h
   have hq := per_is (good_is_11 hk hg).1
   rw [hq.1, hq.2.2.2 rfl] at h
   exact ⟨trivial, h⟩
 · rw [goodC_O hk] at hg; cases hg
end Go.Proofs.YtmjjenemokojjaaGreat
