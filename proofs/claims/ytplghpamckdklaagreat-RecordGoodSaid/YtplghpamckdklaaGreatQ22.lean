/- Decode, by what it calls. -/
import Derived.Test.YtplghpamckdklaaGreatQ21
import Derived.Test.YtplghpamckdklaaGreatQ15
import Derived.Deep.Cut
import Derived.Deep.DeepCutAuto
import Derived.Laws.CopyOwn
import Derived.Laws.ResultCell
namespace Go.Proofs.YtplghpamckdklaaGreat
open Go.RowKit Go.ChangeShapes
set_option maxRecDepth 100000
set_option linter.unusedSimpArgs false
set_option linter.unusedVariables false

theorem results_row_tmp {P : Program} {fn : Func} {p u : Tmp} {ty : TypeId} (h : fn.results = #[.cell p ty, .tmp u]) (tmps : Array Value) (w : World) (g : Nat) (t : TypeId) (cs : Array Value) (fr : Nat × Nat) (d : TypeDesc)
    (hp : tmps.getD p undef = .pointer (some ⟨g, 0, none⟩)) (v : Value) (hv : tmps.getD u undef = v) (hg : w.heap[g]? = some (.cells cs t fr))
    (hu : P.underlying ty = some d) (hd : (match d with | .struct _ | .array _ _ => true | _ => false) = true) (hi : (P.info? ty).map (·.size) = some cs.size) :
    (results fn tmps).run P w = .ok (.tuple #[.agg cs, v]) w := by
  rw [results_cell_tmp h, hp, hv]
  simp [asAddr, run_loadVar_row w g t ty cs fr d hg hu hd hi, Result.andThen]
theorem zeroCmd_is : zeroCmd = #[.int .i64 0, .string ⟨#[]⟩, .string ⟨#[]⟩, .int .i64 0, .int .i64 0, .int .i64 0, .int .i64 0, .int .i64 0, .int .i64 0, .int .i64 0, .int .i64 0, .int .i64 0, .int .i64 0, .string ⟨#[]⟩, .bool false, .bool false, .string ⟨#[]⟩, .int .i64 0, .string ⟨#[]⟩, .string ⟨#[]⟩, .string ⟨#[]⟩, .slice none 0 0] := rfl
theorem wpList_load_rowG {P : Program} {ops : Array Oper} {rest : List Oper} {o : Oper} {a : Act} {w : World} {Q : Exit → Act → World → Prop} (hw : Region.wanted o (yielded ops a.tmps) = true) (ty : TypeId) (x : Operand) (ho : o.op = .load ty x)
    (g : Nat) (hx : a.eval x = .pointer (some ⟨g, 0, none⟩)) (t : TypeId) (cs : Array Value) (fr : Nat × Nat) (d : TypeDesc) (hg : w.heap[g]? = some (.cells cs t fr))
    (hu : P.underlying ty = some d) (hd : (match d with | .struct _ | .array _ _ => true | _ => false) = true) (hi : (P.info? ty).map (·.size) = some cs.size)
    (h : wpList P ops Q rest (a.put o.dst (.agg cs)) w) : wpList P ops Q (o :: rest) a w :=
  wpList_step fun K hK => by rw [if_pos hw]; exact wp_load_row ty x ho g hx t cs fr d hg hu hd hi (hK _ _ h)
def DecNo (w : World) (e : Ending) (w1 : World) : Prop := e = .returned (.tuple #[.agg zeroCmd, .int .i64 10]) ∧ Below w.heap.size w w1
def DecYes (w : World) (cs : Option Addr → Nat → Array Value) (L : List LineV) (e : Ending) (w1 : World) : Prop :=
  ∃ A c, e = .returned (.tuple #[.agg (cs A c), .int .i64 0]) ∧ RowLineV w1 A L ∧ (A = none → L = [] ∧ c = 0) ∧ L.length ≤ c ∧ c ≤ maxLen ∧ Below w.heap.size w w1
theorem row_setRow {w : World} {A : Option Addr} {L : List LineV} {g : Nat} {cs : Array Value} (h : RowLineV w A L) (hA : ∀ a, A = some a → a.block ≠ g) : RowLineV (w.setRow g cs) A L := fun hn => by
  obtain ⟨b, o, e, hl, hr⟩ := h hn
  refine ⟨b, o, e, by simpa [World.setRow] using hl, fun j v hv => ?_⟩
  have hb : b ≠ g := hA _ e
  exact (World.cell?_of_block (a := ⟨b, o + j, none⟩) (setRow_other w g b cs hb)).trans (hr j v hv)
set_option maxHeartbeats 4000000 in
theorem decode_bad (T : Text) (A0 : Option Addr) (cap : Nat) (cs : Option Addr → Nat → Array Value) (L : List LineV) (s1 : Bool × Text) (w : World) (hm : T.length ≤ 140737488351232) (hT : Txt w A0 T) (hA : A0 = none → T = []) (HRd : Hid (∀ (W : World) (g : Nat), Below w.heap.size w W → Rdr W g false T → Calls Tryz.prog 45 #[.pointer (some ⟨g, 0, none⟩)] W fun e w1 => ∃ A c, e = .returned (.agg (cs A c)) ∧ OwnLineV w1 W.heap.size (.slice A L.length c) L ∧ RS W w1 g s1)) (HC : Hid (∀ A c, (cs A c).size = 22 ∧ (cs A c).all (·.oneCell') = true)) (hb : s1.1 = true ∨ s1.2 ≠ []) : Calls Tryz.prog 16 #[.slice A0 T.length cap] w fun e w1 => DecNo w e w1 := by
  have HT := Lib.hid (hT.alloc (.cells #[.int .i64 0, .string ⟨#[]⟩, .string ⟨#[]⟩, .int .i64 0, .int .i64 0, .int .i64 0, .int .i64 0, .int .i64 0, .int .i64 0, .int .i64 0, .int .i64 0, .int .i64 0, .int .i64 0, .string ⟨#[]⟩, .bool false, .bool false, .string ⟨#[]⟩, .int .i64 0, .string ⟨#[]⟩, .string ⟨#[]⟩, .string ⟨#[]⟩, .slice none 0 0] 28))
  have HZ := Lib.hid (heap_alloc_new w (.cells #[.int .i64 0, .string ⟨#[]⟩, .string ⟨#[]⟩, .int .i64 0, .int .i64 0, .int .i64 0, .int .i64 0, .int .i64 0, .int .i64 0, .int .i64 0, .int .i64 0, .int .i64 0, .int .i64 0, .string ⟨#[]⟩, .bool false, .bool false, .string ⟨#[]⟩, .int .i64 0, .string ⟨#[]⟩, .string ⟨#[]⟩, .string ⟨#[]⟩, .slice none 0 0] 28))
  have HB0 := Lib.hid (below_alloc w (.cells #[.int .i64 0, .string ⟨#[]⟩, .string ⟨#[]⟩, .int .i64 0, .int .i64 0, .int .i64 0, .int .i64 0, .int .i64 0, .int .i64 0, .int .i64 0, .int .i64 0, .int .i64 0, .int .i64 0, .string ⟨#[]⟩, .bool false, .bool false, .string ⟨#[]⟩, .int .i64 0, .string ⟨#[]⟩, .string ⟨#[]⟩, .string ⟨#[]⟩, .slice none 0 0] 28))
  have HG : Hid (w.heap.size < (w.alloc (.cells #[.int .i64 0, .string ⟨#[]⟩, .string ⟨#[]⟩, .int .i64 0, .int .i64 0, .int .i64 0, .int .i64 0, .int .i64 0, .int .i64 0, .int .i64 0, .int .i64 0, .int .i64 0, .int .i64 0, .string ⟨#[]⟩, .bool false, .bool false, .string ⟨#[]⟩, .int .i64 0, .string ⟨#[]⟩, .string ⟨#[]⟩, .string ⟨#[]⟩, .slice none 0 0] 28)).heap.size) := Lib.hid (by simp)
  have HM := Lib.hid (And.intro hm hA)
  have HD : Hid (∀ (W : World) (g : Nat), Rdr W g s1.1 s1.2 → Calls Tryz.prog 46 #[.pointer (some ⟨g, 0, none⟩)] W fun e w' => e = .returned (.int .i64 10) ∧ W = w') := Lib.hid (fun W g h => (code_done W g s1.1 s1.2 h).mono fun e w' q => ⟨by rw [q.1]; rw [if_pos hb], q.2⟩)
  have HO1 : Hid ((#[.int .i64 0, .string ⟨#[]⟩, .string ⟨#[]⟩, .int .i64 0, .int .i64 0, .int .i64 0, .int .i64 0, .int .i64 0, .int .i64 0, .int .i64 0, .int .i64 0, .int .i64 0, .int .i64 0, .string ⟨#[]⟩, .bool false, .bool false, .string ⟨#[]⟩, .int .i64 0, .string ⟨#[]⟩, .string ⟨#[]⟩, .string ⟨#[]⟩, .slice none 0 0] : Array Value).all (·.oneCell') = true) := Lib.hid (by simp [Value.oneCell'])
  clear hm hT hA hb
  go_enter Tryz.func16, Tryz.ntmps16
  go_upto_region 1 with fail
  generalize World.alloc w _ = w0 at HT HZ HB0 HG ⊢
  have HZ' : Hid (w0.heap[w.heap.size]? = some (.cells zeroCmd 28 (0, 0))) := HZ
  clear HZ
  go_wp2_with (go_at_call 44; refine (code_open T A0 cap _ HM.out.1 HT.out HM.out.2).mono ?_; rintro e w1 ⟨g, hg1, hg2, rfl, hr, hb⟩; have HR1 := Lib.hid hr; have HB1 := Lib.hid (below_then HB0.out hb); have HZ1 := Lib.hid (heap_on hb HZ'.out); have HG1 : Hid (w.heap.size < g) := Lib.hid (by have := HG.out; omega); clear hg1 hg2 hr hb; refine Stop.out ?_)
  unfold Stop
  clear HZ' HT HB0
  go_wp2_with (go_at_call 45; refine (HRd.out w1 g HB1.out HR1.out).mono ?_; rintro e w2 ⟨A2, c2, rfl, how, hrs⟩; have HOW := Lib.hid how; have HRS := Lib.hid hrs; have HB2 : Hid (Below w.heap.size w w2) := Lib.hid (HB1.out.trans (hrs.below (Nat.le_of_lt HG1.out))); have HZ2 := Lib.hid ((hrs.2.1.block w.heap.size (heapLt HZ1.out) (Nat.ne_of_lt HG1.out)).trans HZ1.out); clear how hrs; refine Stop.out ?_)
  unfold Stop
  clear HR1 HB1 HZ1
  have HCV := Lib.hid (HC.out A2 c2)
  generalize hcv : cs A2 c2 = cv at HCV ⊢
  have HCE : Hid (cs A2 c2 = cv) := Lib.hid hcv
  clear hcv HC
  have HX := Lib.hid (heap_alloc_new w2 (.cells #[.int .i64 0, .string ⟨#[]⟩, .string ⟨#[]⟩, .int .i64 0, .int .i64 0, .int .i64 0, .int .i64 0, .int .i64 0, .int .i64 0, .int .i64 0, .int .i64 0, .int .i64 0, .int .i64 0, .string ⟨#[]⟩, .bool false, .bool false, .string ⟨#[]⟩, .int .i64 0, .string ⟨#[]⟩, .string ⟨#[]⟩, .string ⟨#[]⟩, .slice none 0 0] 28))
  have HBn := Lib.hid (below_setRow (below_alloc w2 (.cells #[.int .i64 0, .string ⟨#[]⟩, .string ⟨#[]⟩, .int .i64 0, .int .i64 0, .int .i64 0, .int .i64 0, .int .i64 0, .int .i64 0, .int .i64 0, .int .i64 0, .int .i64 0, .int .i64 0, .string ⟨#[]⟩, .bool false, .bool false, .string ⟨#[]⟩, .int .i64 0, .string ⟨#[]⟩, .string ⟨#[]⟩, .string ⟨#[]⟩, .slice none 0 0] 28)) (Nat.le_refl w2.heap.size) cv)
  have HX3 := Lib.hid (setRow_heap (w2.alloc (.cells #[.int .i64 0, .string ⟨#[]⟩, .string ⟨#[]⟩, .int .i64 0, .int .i64 0, .int .i64 0, .int .i64 0, .int .i64 0, .int .i64 0, .int .i64 0, .int .i64 0, .int .i64 0, .int .i64 0, .string ⟨#[]⟩, .bool false, .bool false, .string ⟨#[]⟩, .int .i64 0, .string ⟨#[]⟩, .string ⟨#[]⟩, .string ⟨#[]⟩, .slice none 0 0] 28)) w2.heap.size _ cv _ _ HX.out)
  have HSZ : Hid ((#[.int .i64 0, .string ⟨#[]⟩, .string ⟨#[]⟩, .int .i64 0, .int .i64 0, .int .i64 0, .int .i64 0, .int .i64 0, .int .i64 0, .int .i64 0, .int .i64 0, .int .i64 0, .int .i64 0, .string ⟨#[]⟩, .bool false, .bool false, .string ⟨#[]⟩, .int .i64 0, .string ⟨#[]⟩, .string ⟨#[]⟩, .string ⟨#[]⟩, .slice none 0 0] : Array Value).size = cv.size) := Lib.hid HCV.out.1.symm
  have HI := Lib.hid (cmd_info HCV.out.1)
  go_wp2_with ((with_reducible refine wpList_store_row (o := ⟨none, _, _, _, _, _⟩) ?b1 28 (.tmp 5) (.tmp 9) ?b2 w2.heap.size cv ?b3 ?b4 28 #[.int .i64 0, .string ⟨#[]⟩, .string ⟨#[]⟩, .int .i64 0, .int .i64 0, .int .i64 0, .int .i64 0, .int .i64 0, .int .i64 0, .int .i64 0, .int .i64 0, .int .i64 0, .int .i64 0, .string ⟨#[]⟩, .bool false, .bool false, .string ⟨#[]⟩, .int .i64 0, .string ⟨#[]⟩, .string ⟨#[]⟩, .string ⟨#[]⟩, .slice none 0 0] HX.out ?b5 ?b6 ?b7 ?_); (case b1 => rfl); (case b2 => rfl); (case b3 => rfl); (case b4 => rfl); (case b5 => exact HI.out); (case b6 => exact HSZ.out); (case b7 => exact HCV.out.2); refine Stop.out ?_)
  unfold Stop
  generalize World.setRow _ _ _ = w3 at HBn HX3 ⊢
  have HZ3 := Lib.hid (heap_on HBn.out HZ2.out)
  have HOW3 := Lib.hid (HOW.out.on HBn.out)
  have HR3 := Lib.hid (HRS.out.1.on HBn.out)
  have HB3 := Lib.hid (below_then HB2.out HBn.out)
  clear HX HBn HZ2 HOW HRS HB2
  generalize w2.heap.size = bb at HX3 ⊢
  go_wp2_with (go_at_call 46; refine (HD.out w3 g HR3.out).mono ?_; rintro e w4 ⟨rfl, rfl⟩; refine Stop.out ?_)
  unfold Stop
  go_wp2_with ((with_reducible refine wpList_store_row (o := ⟨none, _, _, _, _, _⟩) ?b1 28 (.tmp 2) (.tmp 18) ?b2 w.heap.size #[.int .i64 0, .string ⟨#[]⟩, .string ⟨#[]⟩, .int .i64 0, .int .i64 0, .int .i64 0, .int .i64 0, .int .i64 0, .int .i64 0, .int .i64 0, .int .i64 0, .int .i64 0, .int .i64 0, .string ⟨#[]⟩, .bool false, .bool false, .string ⟨#[]⟩, .int .i64 0, .string ⟨#[]⟩, .string ⟨#[]⟩, .string ⟨#[]⟩, .slice none 0 0] ?b3 ?b4 28 zeroCmd HZ3.out ?b5 ?b6 ?b7 ?_); (case b1 => rfl); (case b2 => rfl); (case b3 => rfl); (case b4 => rfl); (case b5 => exact cells_info'); (case b6 => rfl); (case b7 => exact HO1.out); refine Stop.out ?_)
  unfold Stop
  have HP9 := Lib.hid (setRow_heap w3 w.heap.size _ (#[.int .i64 0, .string ⟨#[]⟩, .string ⟨#[]⟩, .int .i64 0, .int .i64 0, .int .i64 0, .int .i64 0, .int .i64 0, .int .i64 0, .int .i64 0, .int .i64 0, .int .i64 0, .int .i64 0, .string ⟨#[]⟩, .bool false, .bool false, .string ⟨#[]⟩, .int .i64 0, .string ⟨#[]⟩, .string ⟨#[]⟩, .string ⟨#[]⟩, .slice none 0 0]) _ _ HZ3.out)
  go_wp2
  exact bodyPost_ret (v := .tuple #[.agg (#[.int .i64 0, .string ⟨#[]⟩, .string ⟨#[]⟩, .int .i64 0, .int .i64 0, .int .i64 0, .int .i64 0, .int .i64 0, .int .i64 0, .int .i64 0, .int .i64 0, .int .i64 0, .int .i64 0, .string ⟨#[]⟩, .bool false, .bool false, .string ⟨#[]⟩, .int .i64 0, .string ⟨#[]⟩, .string ⟨#[]⟩, .string ⟨#[]⟩, .slice none 0 0]), .int .i64 10]) (results_row_tmp Tryz.results16 _ _ w.heap.size 28 (#[.int .i64 0, .string ⟨#[]⟩, .string ⟨#[]⟩, .int .i64 0, .int .i64 0, .int .i64 0, .int .i64 0, .int .i64 0, .int .i64 0, .int .i64 0, .int .i64 0, .int .i64 0, .int .i64 0, .string ⟨#[]⟩, .bool false, .bool false, .string ⟨#[]⟩, .int .i64 0, .string ⟨#[]⟩, .string ⟨#[]⟩, .string ⟨#[]⟩, .slice none 0 0]) (0, 0) _ rfl _ rfl HP9.out Tryz.underlying28 rfl cells_info') rfl ⟨rfl, below_setRow HB3.out (Nat.le_refl _) _⟩
set_option maxHeartbeats 4000000 in
theorem decode_no (T : Text) (A0 : Option Addr) (cap : Nat) (cs : Option Addr → Nat → Array Value) (L : List LineV) (s1 : Bool × Text) (w : World) (hm : T.length ≤ 140737488351232) (hT : Txt w A0 T) (hA : A0 = none → T = []) (HRd : Hid (∀ (W : World) (g : Nat), Below w.heap.size w W → Rdr W g false T → Calls Tryz.prog 45 #[.pointer (some ⟨g, 0, none⟩)] W fun e w1 => ∃ A c, e = .returned (.agg (cs A c)) ∧ OwnLineV w1 W.heap.size (.slice A L.length c) L ∧ RS W w1 g s1)) (HC : Hid (∀ A c, (cs A c).size = 22 ∧ (cs A c).all (·.oneCell') = true)) (hb : s1 = (false, [])) (HGd : Hid (∀ (W : World) (A : Option Addr) (c : Nat), Below w.heap.size w W → RowLineV W A L → (A = none → L = [] ∧ c = 0) → L.length ≤ c → c ≤ maxLen → Calls Tryz.prog 8 #[.agg (cs A c)] W fun e w1 => e = .returned (.bool false) ∧ Below W.heap.size W w1)) : Calls Tryz.prog 16 #[.slice A0 T.length cap] w fun e w1 => DecNo w e w1 := by
  have HT := Lib.hid (hT.alloc (.cells #[.int .i64 0, .string ⟨#[]⟩, .string ⟨#[]⟩, .int .i64 0, .int .i64 0, .int .i64 0, .int .i64 0, .int .i64 0, .int .i64 0, .int .i64 0, .int .i64 0, .int .i64 0, .int .i64 0, .string ⟨#[]⟩, .bool false, .bool false, .string ⟨#[]⟩, .int .i64 0, .string ⟨#[]⟩, .string ⟨#[]⟩, .string ⟨#[]⟩, .slice none 0 0] 28))
  have HZ := Lib.hid (heap_alloc_new w (.cells #[.int .i64 0, .string ⟨#[]⟩, .string ⟨#[]⟩, .int .i64 0, .int .i64 0, .int .i64 0, .int .i64 0, .int .i64 0, .int .i64 0, .int .i64 0, .int .i64 0, .int .i64 0, .int .i64 0, .string ⟨#[]⟩, .bool false, .bool false, .string ⟨#[]⟩, .int .i64 0, .string ⟨#[]⟩, .string ⟨#[]⟩, .string ⟨#[]⟩, .slice none 0 0] 28))
  have HB0 := Lib.hid (below_alloc w (.cells #[.int .i64 0, .string ⟨#[]⟩, .string ⟨#[]⟩, .int .i64 0, .int .i64 0, .int .i64 0, .int .i64 0, .int .i64 0, .int .i64 0, .int .i64 0, .int .i64 0, .int .i64 0, .int .i64 0, .string ⟨#[]⟩, .bool false, .bool false, .string ⟨#[]⟩, .int .i64 0, .string ⟨#[]⟩, .string ⟨#[]⟩, .string ⟨#[]⟩, .slice none 0 0] 28))
  have HG : Hid (w.heap.size < (w.alloc (.cells #[.int .i64 0, .string ⟨#[]⟩, .string ⟨#[]⟩, .int .i64 0, .int .i64 0, .int .i64 0, .int .i64 0, .int .i64 0, .int .i64 0, .int .i64 0, .int .i64 0, .int .i64 0, .int .i64 0, .string ⟨#[]⟩, .bool false, .bool false, .string ⟨#[]⟩, .int .i64 0, .string ⟨#[]⟩, .string ⟨#[]⟩, .string ⟨#[]⟩, .slice none 0 0] 28)).heap.size) := Lib.hid (by simp)
  have HM := Lib.hid (And.intro hm hA)
  have HD : Hid (∀ (W : World) (g : Nat), Rdr W g s1.1 s1.2 → Calls Tryz.prog 46 #[.pointer (some ⟨g, 0, none⟩)] W fun e w' => e = .returned (.int .i64 0) ∧ W = w') := Lib.hid (fun W g h => (code_done W g s1.1 s1.2 h).mono fun e w' q => ⟨by rw [q.1]; rw [hb]; rfl, q.2⟩)
  have HO1 : Hid ((#[.int .i64 0, .string ⟨#[]⟩, .string ⟨#[]⟩, .int .i64 0, .int .i64 0, .int .i64 0, .int .i64 0, .int .i64 0, .int .i64 0, .int .i64 0, .int .i64 0, .int .i64 0, .int .i64 0, .string ⟨#[]⟩, .bool false, .bool false, .string ⟨#[]⟩, .int .i64 0, .string ⟨#[]⟩, .string ⟨#[]⟩, .string ⟨#[]⟩, .slice none 0 0] : Array Value).all (·.oneCell') = true) := Lib.hid (by simp [Value.oneCell'])
  clear hm hT hA hb
  go_enter Tryz.func16, Tryz.ntmps16
  go_upto_region 1 with fail
  generalize World.alloc w _ = w0 at HT HZ HB0 HG ⊢
  have HZ' : Hid (w0.heap[w.heap.size]? = some (.cells zeroCmd 28 (0, 0))) := HZ
  clear HZ
  go_wp2_with (go_at_call 44; refine (code_open T A0 cap _ HM.out.1 HT.out HM.out.2).mono ?_; rintro e w1 ⟨g, hg1, hg2, rfl, hr, hb⟩; have HR1 := Lib.hid hr; have HB1 := Lib.hid (below_then HB0.out hb); have HZ1 := Lib.hid (heap_on hb HZ'.out); have HG1 : Hid (w.heap.size < g) := Lib.hid (by have := HG.out; omega); clear hg1 hg2 hr hb; refine Stop.out ?_)
  unfold Stop
  clear HZ' HT HB0
  go_wp2_with (go_at_call 45; refine (HRd.out w1 g HB1.out HR1.out).mono ?_; rintro e w2 ⟨A2, c2, rfl, how, hrs⟩; have HOW := Lib.hid how; have HRS := Lib.hid hrs; have HB2 : Hid (Below w.heap.size w w2) := Lib.hid (HB1.out.trans (hrs.below (Nat.le_of_lt HG1.out))); have HZ2 := Lib.hid ((hrs.2.1.block w.heap.size (heapLt HZ1.out) (Nat.ne_of_lt HG1.out)).trans HZ1.out); clear how hrs; refine Stop.out ?_)
  unfold Stop
  clear HR1 HB1 HZ1
  have HCV := Lib.hid (HC.out A2 c2)
  generalize hcv : cs A2 c2 = cv at HCV ⊢
  have HCE : Hid (cs A2 c2 = cv) := Lib.hid hcv
  clear hcv HC
  have HX := Lib.hid (heap_alloc_new w2 (.cells #[.int .i64 0, .string ⟨#[]⟩, .string ⟨#[]⟩, .int .i64 0, .int .i64 0, .int .i64 0, .int .i64 0, .int .i64 0, .int .i64 0, .int .i64 0, .int .i64 0, .int .i64 0, .int .i64 0, .string ⟨#[]⟩, .bool false, .bool false, .string ⟨#[]⟩, .int .i64 0, .string ⟨#[]⟩, .string ⟨#[]⟩, .string ⟨#[]⟩, .slice none 0 0] 28))
  have HBn := Lib.hid (below_setRow (below_alloc w2 (.cells #[.int .i64 0, .string ⟨#[]⟩, .string ⟨#[]⟩, .int .i64 0, .int .i64 0, .int .i64 0, .int .i64 0, .int .i64 0, .int .i64 0, .int .i64 0, .int .i64 0, .int .i64 0, .int .i64 0, .string ⟨#[]⟩, .bool false, .bool false, .string ⟨#[]⟩, .int .i64 0, .string ⟨#[]⟩, .string ⟨#[]⟩, .string ⟨#[]⟩, .slice none 0 0] 28)) (Nat.le_refl w2.heap.size) cv)
  have HX3 := Lib.hid (setRow_heap (w2.alloc (.cells #[.int .i64 0, .string ⟨#[]⟩, .string ⟨#[]⟩, .int .i64 0, .int .i64 0, .int .i64 0, .int .i64 0, .int .i64 0, .int .i64 0, .int .i64 0, .int .i64 0, .int .i64 0, .int .i64 0, .string ⟨#[]⟩, .bool false, .bool false, .string ⟨#[]⟩, .int .i64 0, .string ⟨#[]⟩, .string ⟨#[]⟩, .string ⟨#[]⟩, .slice none 0 0] 28)) w2.heap.size _ cv _ _ HX.out)
  have HSZ : Hid ((#[.int .i64 0, .string ⟨#[]⟩, .string ⟨#[]⟩, .int .i64 0, .int .i64 0, .int .i64 0, .int .i64 0, .int .i64 0, .int .i64 0, .int .i64 0, .int .i64 0, .int .i64 0, .int .i64 0, .string ⟨#[]⟩, .bool false, .bool false, .string ⟨#[]⟩, .int .i64 0, .string ⟨#[]⟩, .string ⟨#[]⟩, .string ⟨#[]⟩, .slice none 0 0] : Array Value).size = cv.size) := Lib.hid HCV.out.1.symm
  have HI := Lib.hid (cmd_info HCV.out.1)
  go_wp2_with ((with_reducible refine wpList_store_row (o := ⟨none, _, _, _, _, _⟩) ?b1 28 (.tmp 5) (.tmp 9) ?b2 w2.heap.size cv ?b3 ?b4 28 #[.int .i64 0, .string ⟨#[]⟩, .string ⟨#[]⟩, .int .i64 0, .int .i64 0, .int .i64 0, .int .i64 0, .int .i64 0, .int .i64 0, .int .i64 0, .int .i64 0, .int .i64 0, .int .i64 0, .string ⟨#[]⟩, .bool false, .bool false, .string ⟨#[]⟩, .int .i64 0, .string ⟨#[]⟩, .string ⟨#[]⟩, .string ⟨#[]⟩, .slice none 0 0] HX.out ?b5 ?b6 ?b7 ?_); (case b1 => rfl); (case b2 => rfl); (case b3 => rfl); (case b4 => rfl); (case b5 => exact HI.out); (case b6 => exact HSZ.out); (case b7 => exact HCV.out.2); refine Stop.out ?_)
  unfold Stop
  generalize World.setRow _ _ _ = w3 at HBn HX3 ⊢
  have HZ3 := Lib.hid (heap_on HBn.out HZ2.out)
  have HOW3 := Lib.hid (HOW.out.on HBn.out)
  have HR3 := Lib.hid (HRS.out.1.on HBn.out)
  have HB3 := Lib.hid (below_then HB2.out HBn.out)
  clear HX HBn HZ2 HOW HRS HB2
  generalize w2.heap.size = bb at HX3 ⊢
  go_wp2_with (go_at_call 46; refine (HD.out w3 g HR3.out).mono ?_; rintro e w4 ⟨rfl, rfl⟩; refine Stop.out ?_)
  unfold Stop
  obtain ⟨A3, c3, q1, q2, q3, q4, q5⟩ := HOW3.out.bounds
  simp only [Value.slice.injEq] at q1
  obtain ⟨rfl, _, rfl⟩ := q1
  have HRow := Lib.hid (And.intro q2 (And.intro q3 (And.intro q4 q5)))
  have HGx : Hid (Calls Tryz.prog 8 #[.agg cv] w3 fun e w1 => e = .returned (.bool false) ∧ Below w3.heap.size w3 w1) := Lib.hid (by rw [← HCE.out]; exact HGd.out _ A2 c2 HB3.out q2 q3 q4 q5)
  clear q2 q3 q4 q5 HGd HOW3
  go_wp2_with ((with_reducible refine wpList_load_rowG (o := ⟨some 14, _, _, _, _, _⟩) ?a0 28 (.tmp 5) ?a1 bb ?a2 28 cv (0, 0) _ HX3.out Tryz.underlying28 ?a4 HI.out ?_); (case a0 => first | rfl | kernel_rfl); (case a1 => rfl); (case a2 => rfl); (case a4 => rfl); refine Stop.out ?_)
  unfold Stop
  go_wp2_with (go_at_call 8; refine HGx.out.mono ?_; rintro e w5 ⟨rfl, hb⟩; have HX5 := Lib.hid (heap_on hb HX3.out); have HZ5 := Lib.hid (heap_on hb HZ3.out); have HB5 := Lib.hid (below_then HB3.out hb); have HRow5 := Lib.hid (HRow.out.1.on hb); clear hb; refine Stop.out ?_)
  unfold Stop
  go_wp2_with ((with_reducible refine wpList_store_row (o := ⟨none, _, _, _, _, _⟩) ?b1 28 (.tmp 2) (.tmp 18) ?b2 w.heap.size #[.int .i64 0, .string ⟨#[]⟩, .string ⟨#[]⟩, .int .i64 0, .int .i64 0, .int .i64 0, .int .i64 0, .int .i64 0, .int .i64 0, .int .i64 0, .int .i64 0, .int .i64 0, .int .i64 0, .string ⟨#[]⟩, .bool false, .bool false, .string ⟨#[]⟩, .int .i64 0, .string ⟨#[]⟩, .string ⟨#[]⟩, .string ⟨#[]⟩, .slice none 0 0] ?b3 ?b4 28 zeroCmd HZ5.out ?b5 ?b6 ?b7 ?_); (case b1 => rfl); (case b2 => rfl); (case b3 => rfl); (case b4 => rfl); (case b5 => exact cells_info'); (case b6 => rfl); (case b7 => exact HO1.out); refine Stop.out ?_)
  unfold Stop
  have HP9 := Lib.hid (setRow_heap w5 w.heap.size _ (#[.int .i64 0, .string ⟨#[]⟩, .string ⟨#[]⟩, .int .i64 0, .int .i64 0, .int .i64 0, .int .i64 0, .int .i64 0, .int .i64 0, .int .i64 0, .int .i64 0, .int .i64 0, .int .i64 0, .string ⟨#[]⟩, .bool false, .bool false, .string ⟨#[]⟩, .int .i64 0, .string ⟨#[]⟩, .string ⟨#[]⟩, .string ⟨#[]⟩, .slice none 0 0]) _ _ HZ5.out)
  go_wp2
  exact bodyPost_ret (v := .tuple #[.agg (#[.int .i64 0, .string ⟨#[]⟩, .string ⟨#[]⟩, .int .i64 0, .int .i64 0, .int .i64 0, .int .i64 0, .int .i64 0, .int .i64 0, .int .i64 0, .int .i64 0, .int .i64 0, .int .i64 0, .string ⟨#[]⟩, .bool false, .bool false, .string ⟨#[]⟩, .int .i64 0, .string ⟨#[]⟩, .string ⟨#[]⟩, .string ⟨#[]⟩, .slice none 0 0]), .int .i64 10]) (results_row_tmp Tryz.results16 _ _ w.heap.size 28 (#[.int .i64 0, .string ⟨#[]⟩, .string ⟨#[]⟩, .int .i64 0, .int .i64 0, .int .i64 0, .int .i64 0, .int .i64 0, .int .i64 0, .int .i64 0, .int .i64 0, .int .i64 0, .int .i64 0, .string ⟨#[]⟩, .bool false, .bool false, .string ⟨#[]⟩, .int .i64 0, .string ⟨#[]⟩, .string ⟨#[]⟩, .string ⟨#[]⟩, .slice none 0 0]) (0, 0) _ rfl _ rfl HP9.out Tryz.underlying28 rfl cells_info') rfl ⟨rfl, below_setRow HB5.out (Nat.le_refl _) _⟩
set_option maxHeartbeats 4000000 in
theorem decode_yes (T : Text) (A0 : Option Addr) (cap : Nat) (cs : Option Addr → Nat → Array Value) (L : List LineV) (s1 : Bool × Text) (w : World) (hm : T.length ≤ 140737488351232) (hT : Txt w A0 T) (hA : A0 = none → T = []) (HRd : Hid (∀ (W : World) (g : Nat), Below w.heap.size w W → Rdr W g false T → Calls Tryz.prog 45 #[.pointer (some ⟨g, 0, none⟩)] W fun e w1 => ∃ A c, e = .returned (.agg (cs A c)) ∧ OwnLineV w1 W.heap.size (.slice A L.length c) L ∧ RS W w1 g s1)) (HC : Hid (∀ A c, (cs A c).size = 22 ∧ (cs A c).all (·.oneCell') = true)) (hb : s1 = (false, [])) (HGd : Hid (∀ (W : World) (A : Option Addr) (c : Nat), Below w.heap.size w W → RowLineV W A L → (A = none → L = [] ∧ c = 0) → L.length ≤ c → c ≤ maxLen → Calls Tryz.prog 8 #[.agg (cs A c)] W fun e w1 => e = .returned (.bool true) ∧ Below W.heap.size W w1)) : Calls Tryz.prog 16 #[.slice A0 T.length cap] w fun e w1 => DecYes w cs L e w1 := by
  have HT := Lib.hid (hT.alloc (.cells #[.int .i64 0, .string ⟨#[]⟩, .string ⟨#[]⟩, .int .i64 0, .int .i64 0, .int .i64 0, .int .i64 0, .int .i64 0, .int .i64 0, .int .i64 0, .int .i64 0, .int .i64 0, .int .i64 0, .string ⟨#[]⟩, .bool false, .bool false, .string ⟨#[]⟩, .int .i64 0, .string ⟨#[]⟩, .string ⟨#[]⟩, .string ⟨#[]⟩, .slice none 0 0] 28))
  have HZ := Lib.hid (heap_alloc_new w (.cells #[.int .i64 0, .string ⟨#[]⟩, .string ⟨#[]⟩, .int .i64 0, .int .i64 0, .int .i64 0, .int .i64 0, .int .i64 0, .int .i64 0, .int .i64 0, .int .i64 0, .int .i64 0, .int .i64 0, .string ⟨#[]⟩, .bool false, .bool false, .string ⟨#[]⟩, .int .i64 0, .string ⟨#[]⟩, .string ⟨#[]⟩, .string ⟨#[]⟩, .slice none 0 0] 28))
  have HB0 := Lib.hid (below_alloc w (.cells #[.int .i64 0, .string ⟨#[]⟩, .string ⟨#[]⟩, .int .i64 0, .int .i64 0, .int .i64 0, .int .i64 0, .int .i64 0, .int .i64 0, .int .i64 0, .int .i64 0, .int .i64 0, .int .i64 0, .string ⟨#[]⟩, .bool false, .bool false, .string ⟨#[]⟩, .int .i64 0, .string ⟨#[]⟩, .string ⟨#[]⟩, .string ⟨#[]⟩, .slice none 0 0] 28))
  have HG : Hid (w.heap.size < (w.alloc (.cells #[.int .i64 0, .string ⟨#[]⟩, .string ⟨#[]⟩, .int .i64 0, .int .i64 0, .int .i64 0, .int .i64 0, .int .i64 0, .int .i64 0, .int .i64 0, .int .i64 0, .int .i64 0, .int .i64 0, .string ⟨#[]⟩, .bool false, .bool false, .string ⟨#[]⟩, .int .i64 0, .string ⟨#[]⟩, .string ⟨#[]⟩, .string ⟨#[]⟩, .slice none 0 0] 28)).heap.size) := Lib.hid (by simp)
  have HM := Lib.hid (And.intro hm hA)
  have HD : Hid (∀ (W : World) (g : Nat), Rdr W g s1.1 s1.2 → Calls Tryz.prog 46 #[.pointer (some ⟨g, 0, none⟩)] W fun e w' => e = .returned (.int .i64 0) ∧ W = w') := Lib.hid (fun W g h => (code_done W g s1.1 s1.2 h).mono fun e w' q => ⟨by rw [q.1]; rw [hb]; rfl, q.2⟩)
  have HO1 : Hid ((#[.int .i64 0, .string ⟨#[]⟩, .string ⟨#[]⟩, .int .i64 0, .int .i64 0, .int .i64 0, .int .i64 0, .int .i64 0, .int .i64 0, .int .i64 0, .int .i64 0, .int .i64 0, .int .i64 0, .string ⟨#[]⟩, .bool false, .bool false, .string ⟨#[]⟩, .int .i64 0, .string ⟨#[]⟩, .string ⟨#[]⟩, .string ⟨#[]⟩, .slice none 0 0] : Array Value).all (·.oneCell') = true) := Lib.hid (by simp [Value.oneCell'])
  clear hm hT hA hb
  go_enter Tryz.func16, Tryz.ntmps16
  go_upto_region 1 with fail
  generalize World.alloc w _ = w0 at HT HZ HB0 HG ⊢
  have HZ' : Hid (w0.heap[w.heap.size]? = some (.cells zeroCmd 28 (0, 0))) := HZ
  clear HZ
  go_wp2_with (go_at_call 44; refine (code_open T A0 cap _ HM.out.1 HT.out HM.out.2).mono ?_; rintro e w1 ⟨g, hg1, hg2, rfl, hr, hb⟩; have HR1 := Lib.hid hr; have HB1 := Lib.hid (below_then HB0.out hb); have HZ1 := Lib.hid (heap_on hb HZ'.out); have HG1 : Hid (w.heap.size < g) := Lib.hid (by have := HG.out; omega); clear hg1 hg2 hr hb; refine Stop.out ?_)
  unfold Stop
  clear HZ' HT HB0
  go_wp2_with (go_at_call 45; refine (HRd.out w1 g HB1.out HR1.out).mono ?_; rintro e w2 ⟨A2, c2, rfl, how, hrs⟩; have HOW := Lib.hid how; have HRS := Lib.hid hrs; have HB2 : Hid (Below w.heap.size w w2) := Lib.hid (HB1.out.trans (hrs.below (Nat.le_of_lt HG1.out))); have HZ2 := Lib.hid ((hrs.2.1.block w.heap.size (heapLt HZ1.out) (Nat.ne_of_lt HG1.out)).trans HZ1.out); clear how hrs; refine Stop.out ?_)
  unfold Stop
  have HWs : Hid (w.heap.size < w1.heap.size) := Lib.hid (heapLt HZ1.out)
  clear HR1 HB1 HZ1
  have HCV := Lib.hid (HC.out A2 c2)
  generalize hcv : cs A2 c2 = cv at HCV ⊢
  have HCE : Hid (cs A2 c2 = cv) := Lib.hid hcv
  clear hcv HC
  have HX := Lib.hid (heap_alloc_new w2 (.cells #[.int .i64 0, .string ⟨#[]⟩, .string ⟨#[]⟩, .int .i64 0, .int .i64 0, .int .i64 0, .int .i64 0, .int .i64 0, .int .i64 0, .int .i64 0, .int .i64 0, .int .i64 0, .int .i64 0, .string ⟨#[]⟩, .bool false, .bool false, .string ⟨#[]⟩, .int .i64 0, .string ⟨#[]⟩, .string ⟨#[]⟩, .string ⟨#[]⟩, .slice none 0 0] 28))
  have HBn := Lib.hid (below_setRow (below_alloc w2 (.cells #[.int .i64 0, .string ⟨#[]⟩, .string ⟨#[]⟩, .int .i64 0, .int .i64 0, .int .i64 0, .int .i64 0, .int .i64 0, .int .i64 0, .int .i64 0, .int .i64 0, .int .i64 0, .int .i64 0, .string ⟨#[]⟩, .bool false, .bool false, .string ⟨#[]⟩, .int .i64 0, .string ⟨#[]⟩, .string ⟨#[]⟩, .string ⟨#[]⟩, .slice none 0 0] 28)) (Nat.le_refl w2.heap.size) cv)
  have HX3 := Lib.hid (setRow_heap (w2.alloc (.cells #[.int .i64 0, .string ⟨#[]⟩, .string ⟨#[]⟩, .int .i64 0, .int .i64 0, .int .i64 0, .int .i64 0, .int .i64 0, .int .i64 0, .int .i64 0, .int .i64 0, .int .i64 0, .int .i64 0, .string ⟨#[]⟩, .bool false, .bool false, .string ⟨#[]⟩, .int .i64 0, .string ⟨#[]⟩, .string ⟨#[]⟩, .string ⟨#[]⟩, .slice none 0 0] 28)) w2.heap.size _ cv _ _ HX.out)
  have HSZ : Hid ((#[.int .i64 0, .string ⟨#[]⟩, .string ⟨#[]⟩, .int .i64 0, .int .i64 0, .int .i64 0, .int .i64 0, .int .i64 0, .int .i64 0, .int .i64 0, .int .i64 0, .int .i64 0, .int .i64 0, .string ⟨#[]⟩, .bool false, .bool false, .string ⟨#[]⟩, .int .i64 0, .string ⟨#[]⟩, .string ⟨#[]⟩, .string ⟨#[]⟩, .slice none 0 0] : Array Value).size = cv.size) := Lib.hid HCV.out.1.symm
  have HI := Lib.hid (cmd_info HCV.out.1)
  go_wp2_with ((with_reducible refine wpList_store_row (o := ⟨none, _, _, _, _, _⟩) ?b1 28 (.tmp 5) (.tmp 9) ?b2 w2.heap.size cv ?b3 ?b4 28 #[.int .i64 0, .string ⟨#[]⟩, .string ⟨#[]⟩, .int .i64 0, .int .i64 0, .int .i64 0, .int .i64 0, .int .i64 0, .int .i64 0, .int .i64 0, .int .i64 0, .int .i64 0, .int .i64 0, .string ⟨#[]⟩, .bool false, .bool false, .string ⟨#[]⟩, .int .i64 0, .string ⟨#[]⟩, .string ⟨#[]⟩, .string ⟨#[]⟩, .slice none 0 0] HX.out ?b5 ?b6 ?b7 ?_); (case b1 => rfl); (case b2 => rfl); (case b3 => rfl); (case b4 => rfl); (case b5 => exact HI.out); (case b6 => exact HSZ.out); (case b7 => exact HCV.out.2); refine Stop.out ?_)
  unfold Stop
  generalize World.setRow _ _ _ = w3 at HBn HX3 ⊢
  have HZ3 := Lib.hid (heap_on HBn.out HZ2.out)
  have HOW3 := Lib.hid (HOW.out.on HBn.out)
  have HR3 := Lib.hid (HRS.out.1.on HBn.out)
  have HB3 := Lib.hid (below_then HB2.out HBn.out)
  clear HX HBn HZ2 HOW HRS HB2
  generalize w2.heap.size = bb at HX3 ⊢
  go_wp2_with (go_at_call 46; refine (HD.out w3 g HR3.out).mono ?_; rintro e w4 ⟨rfl, rfl⟩; refine Stop.out ?_)
  unfold Stop
  obtain ⟨A3, c3, q1, q2, q3, q4, q5⟩ := HOW3.out.bounds
  simp only [Value.slice.injEq] at q1
  obtain ⟨rfl, _, rfl⟩ := q1
  have HRow := Lib.hid (And.intro q2 (And.intro q3 (And.intro q4 q5)))
  have HGx : Hid (Calls Tryz.prog 8 #[.agg cv] w3 fun e w1 => e = .returned (.bool true) ∧ Below w3.heap.size w3 w1) := Lib.hid (by rw [← HCE.out]; exact HGd.out _ A2 c2 HB3.out q2 q3 q4 q5)
  have HAp : Hid (∀ a, A2 = some a → w.heap.size < a.block) := Lib.hid (fun a e => by subst e; have h1 := (HOW3.out.block a.block rfl).1; have := HWs.out; omega)
  clear q2 q3 q4 q5 HGd HOW3
  go_wp2_with ((with_reducible refine wpList_load_rowG (o := ⟨some 14, _, _, _, _, _⟩) ?a0 28 (.tmp 5) ?a1 bb ?a2 28 cv (0, 0) _ HX3.out Tryz.underlying28 ?a4 HI.out ?_); (case a0 => first | rfl | kernel_rfl); (case a1 => rfl); (case a2 => rfl); (case a4 => rfl); refine Stop.out ?_)
  unfold Stop
  go_wp2_with (go_at_call 8; refine HGx.out.mono ?_; rintro e w5 ⟨rfl, hb⟩; have HX5 := Lib.hid (heap_on hb HX3.out); have HZ5 := Lib.hid (heap_on hb HZ3.out); have HB5 := Lib.hid (below_then HB3.out hb); have HRow5 := Lib.hid (HRow.out.1.on hb); clear hb; refine Stop.out ?_)
  unfold Stop
  go_wp2_with ((with_reducible refine wpList_load_row (o := ⟨some 19, _, _, _, _, _⟩) ?a1 28 (.tmp 5) ?a2 bb ?a3 28 cv (0, 0) _ HX5.out Tryz.underlying28 ?a4 HI.out ?_); (case a1 => rfl); (case a2 => rfl); (case a3 => rfl); (case a4 => rfl); refine Stop.out ?_)
  unfold Stop
  have HSZ9 : Hid (zeroCmd.size = cv.size) := Lib.hid HSZ.out
  go_wp2_with ((with_reducible refine wpList_store_row (o := ⟨none, _, _, _, _, _⟩) ?b1 28 (.tmp 2) (.tmp 19) ?b2 w.heap.size cv ?b3 ?b4 28 zeroCmd HZ5.out ?b5 ?b6 ?b7 ?_); (case b1 => rfl); (case b2 => rfl); (case b3 => rfl); (case b4 => rfl); (case b5 => exact HI.out); (case b6 => exact HSZ9.out); (case b7 => exact HCV.out.2); refine Stop.out ?_)
  unfold Stop
  have HP9 := Lib.hid (setRow_heap w5 w.heap.size _ cv _ _ HZ5.out)
  go_wp2
  refine bodyPost_ret (v := .tuple #[.agg cv, .int .i64 0]) (results_row_tmp Tryz.results16 _ _ w.heap.size 28 cv (0, 0) _ rfl _ rfl HP9.out Tryz.underlying28 rfl HI.out) rfl ⟨A2, c2, by rw [HCE.out], ?_, HRow.out.2.1, HRow.out.2.2.1, HRow.out.2.2.2, below_setRow HB5.out (Nat.le_refl _) cv⟩
  exact row_setRow HRow5.out (fun A e => by have := HAp.out A e; omega)
end Go.Proofs.YtplghpamckdklaaGreat
