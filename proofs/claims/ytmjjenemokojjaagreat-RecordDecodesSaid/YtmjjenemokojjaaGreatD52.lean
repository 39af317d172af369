/- What stands in bytes, as the document reads it: any kind. The chapter's document, read from its bytes. The chapter's example. What is encoded. -/
import Derived.Test.YtmjjenemokojjaaGreatD51
import Derived.Test.YtmjjenemokojjaaGreatD48
import Derived.Test.YtmjjenemokojjaaGreatD32
import Derived.WalkMore
import Derived.Laws.Rows
import Derived.Laws.Tables
import Derived.Laws.CopyRow
import Derived.Test.YtmjjenemokojjaaGreatD42
import Derived.Test.YtmjjenemokojjaaGreatD28
import Derived.Test.YtmjjenemokojjaaGreatD41
import Derived.Test.YtmjjenemokojjaaGreatD33
import Derived.Test.YtmjjenemokojjaaGreatD46
import Derived.Deep.Cut
import Derived.Deep.DeepCutAuto
import Derived.Laws.CopyOwn
import Derived.Test.YtmjjenemokojjaaGreatD49
import Derived.Test.YtmjjenemokojjaaGreatD50
import Derived.Test.YtmjjenemokojjaaGreatD47
namespace Go.Proofs.YtmjjenemokojjaaGreat
open Go.RowKit Go.ChangeShapes
set_option maxRecDepth 100000
set_option linter.unusedSimpArgs false
set_option linter.unusedVariables false

def cmd8 (h : HeadV) (A : Option Addr) (L : List LineV) (c : Nat) : CmdV := ⟨8, ⟨#[]⟩, ⟨#[]⟩, 0, 0, 0, 0, 0, 0, 0, 0, 0, 0, h.1, h.2.1, h.2.2.1, h.2.2.2.1, h.2.2.2.2.1, h.2.2.2.2.2.1, h.2.2.2.2.2.2.1, h.2.2.2.2.2.2.2, A, L, c⟩
set_option maxHeartbeats 16000000 in
theorem dread_8 (T : Text) (A0 : Option Addr) (cap : Nat) (w : World) (hT : Txt w A0 T) (hA : A0 = none → T = []) (hl : T.length ≤ 20000) (hc : T.length ≤ cap) (hm : cap ≤ maxLen) (hk : numV (false, T) = 8) : Calls Tryz.prog 48 #[.slice A0 T.length cap] w fun e w1 => ∃ A c L, e = .returned (.agg (cmdA (cmd8 (headV (numS (false, T))) A L c))) ∧ OwnLineV w1 w.heap.size (.slice A L.length c) L ∧ L.length ≤ 65 ∧ (∃ k, L = (linesR k (numS (headS (numS (false, T))))).1) ∧ (numV (headS (numS (false, T))) ≤ 64 → (docR (numS (false, T))).2.2.1 = false → L = (docR (numS (false, T))).2.1) ∧ Below w.heap.size w w1 := by
 have h2 := heap_alloc_new (w.alloc (.cells zeroCmd 28)) (.cells #[.slice A0 T.length cap, .int .i64 0, .bool false] 101)
 simp only [World.size_alloc] at h2
 have HB := Lib.hid (show Below w.heap.size w ((w.alloc (.cells zeroCmd 28)).alloc (.cells #[.slice A0 T.length cap, .int .i64 0, .bool false] 101)) from below_more (below_alloc _ _))
 have HZ := Lib.hid (heap_on (below_alloc (w.alloc (.cells zeroCmd 28)) (.cells #[.slice A0 T.length cap, .int .i64 0, .bool false] 101)) (heap_alloc_new w (.cells zeroCmd 28)))
 have HC := Lib.hid (RM.start DR.law (DR.first h2 hl hc hm (hT.below HB.out) hA (fun hn a e => by obtain ⟨a', e', hb, _⟩ := hT hn; rw [e] at e'; injection e' with e'; subst e'; omega)) (heapLt h2))
 clear h2 hT hA hl hc hm
 go_enter Tryz.func48, Tryz.ntmps48
 go_upto_region 2 with fail
 generalize hx : World.alloc (World.alloc w _) _ = w0 at HC HZ HB ⊢
 clear hx
 have HN0 := HC.out.dnum
 first | rw [hk] at HN0 | rw [HKK.out] at HN0
 have HNN := Lib.hid HN0
 clear HN0
 go_wp2_with (go_at_call 77; refine HNN.out.mono ?_; rintro e w1 ⟨rfl, hs⟩; have HC1 := Lib.hid hs; clear hs HC HNN; refine Stop.out ?_)
 unfold Stop
 have HC := Lib.hid (HC1.out.alloc zeroCmd 28)
 have HLt := Lib.hid HC1.out.gl
 have HO1 : Hid (∀ k : Int, (kindC k).all (·.oneCell') = true) := Lib.hid (fun k => by simp [kindC, Value.oneCell'])
 clear HC1
 go_wp2_with ((with_reducible apply RM.storeAll HC.out (cs := kindC _)); (case ho => rfl); (case hgd => rfl); (case hx => rfl); (case hy => rfl); (case hsz => exact cells_info'); (case h0 => rfl); (case h1 => exact HO1.out _); intro wn hs; (have HN := Lib.hid hs); clear hs HC; (have HC := HN); clear HN; refine Stop.out ?_)
 unfold Stop
 have y0 := HC.out.kind
 generalize Value.agg #[.int .i64 _, .string ⟨#[]⟩, .string ⟨#[]⟩, .int .i64 0, .int .i64 0, .int .i64 0, .int .i64 0, .int .i64 0, .int .i64 0, .int .i64 0, .int .i64 0, .int .i64 0, .int .i64 0, .string ⟨#[]⟩, .bool false, .bool false, .string ⟨#[]⟩, .int .i64 0, .string ⟨#[]⟩, .string ⟨#[]⟩, .string ⟨#[]⟩, .slice none 0 0] = vk
 go_wp2_with (go_at_call 79; refine (dread_doc _ _ _ HC.out.rs).mono ?_; rintro e wn ⟨A, c, L, rfl, hown, ⟨s2, hs2⟩, hon, h65, hex, hcond⟩; (have HN := Lib.hid (HC.out.doc hs2 hon hown)); (have HF := Lib.hid (And.intro h65 (And.intro hex hcond))); clear hown hs2 hon h65 hex hcond HC; (have HC := HN); clear HN; refine Stop.out ?_)
 unfold Stop
 repeat (go_wp2_with (first
  | (go_at_call 77; refine (HC.out.dnum).mono ?_; rintro e wn ⟨rfl, hs⟩; (have HN := Lib.hid hs); clear hs HC; (try clear y0); (have HC := HN); clear HN; refine Stop.out ?_)
  | (go_at_call 78; refine (HC.out.dtext).mono ?_; rintro e wn ⟨rfl, hs⟩; (have HN := Lib.hid hs); clear hs HC; (try clear y0); (have HC := HN); clear HN; refine Stop.out ?_)
  | (go_at_call 102; refine (HC.out.dflag).mono ?_; rintro e wn ⟨rfl, hs⟩; (have HN := Lib.hid hs); clear hs HC; (try clear y0); (have HC := HN); clear HN; refine Stop.out ?_)
  | ((with_reducible apply RM.storeI HC.out); (case ho => rfl); (case hy => rfl); (case hgd => rfl); (case hx => rfl); (case hsz => kernel_rfl); (case hi => kernel_rfl); intro wn hs; (have HN := Lib.hid hs); clear hs HC; (have HC := HN); clear HN; refine Stop.out ?_)
  | ((with_reducible apply RM.storeS HC.out); (case ho => rfl); (case hy => rfl); (case hgd => rfl); (case hx => rfl); (case hsz => kernel_rfl); (case hi => kernel_rfl); intro wn hs; (have HN := Lib.hid hs); clear hs HC; (have HC := HN); clear HN; refine Stop.out ?_)
  | ((with_reducible apply RM.storeB HC.out); (case ho => rfl); (case hy => rfl); (case hgd => rfl); (case hx => rfl); (case hsz => kernel_rfl); (case hi => kernel_rfl); intro wn hs; (have HN := Lib.hid hs); clear hs HC; (have HC := HN); clear HN; refine Stop.out ?_)
  | ((with_reducible apply RM.storeA HC.out); (case ho => rfl); (case hy => rfl); (case hgd => rfl); (case hx => rfl); (case hn => rfl); (case hsz => kernel_rfl); (case h1 => rfl); (case hi => kernel_rfl); intro wn hs; (have HN := Lib.hid hs); clear hs HC; (have HC := HN); clear HN; refine Stop.out ?_)); unfold Stop)
 go_wp2_with ((with_reducible apply RM.load HC.out Tryz.underlying28); (case ho => rfl); (case hgd => rfl); (case hx => rfl); (case hsz => kernel_rfl); refine Stop.out ?_)
 unfold Stop
 try clear y0
 have HZ9 := Lib.hid ((HC.out.at_ w.heap.size (by have := HLt.out; omega) (by omega)).trans HZ.out)
 go_wp2_with ((with_reducible apply wpList_store_row (ty := 28) (g := w.heap.size) (t := 28) (old := zeroCmd) (hg := HZ9.out)); (case hgd => rfl); (case ho => rfl); (case hx => rfl); (case hy => rfl); (case hi => kernel_rfl); (case hold => rfl); (case h1 => simp [putAt, kindC, docC, Value.oneCell']); refine Stop.out ?_)
 unfold Stop
 have HP9 := Lib.hid (HC.out.stored HZ9.out)
 go_wp2
 exact bodyPost_ret (v := .agg _) (results_cell_row Tryz.results48 _ _ w.heap.size 28 _ (0, 0) _ rfl HP9.out Tryz.underlying28 rfl (by kernel_rfl)) rfl ⟨A, c, L, rfl, own_set HC.out.own (by have := HLt.out; omega) (by have := HLt.out; omega), HF.out.1, HF.out.2.1, HF.out.2.2, below_setRow (HB.out.trans ((HC.out.below (by omega)))) (Nat.le_refl _) _⟩
theorem dread_any (T : Text) (A0 : Option Addr) (cap : Nat) (w : World) (hT : Txt w A0 T) (hA : A0 = none → T = []) (hl : T.length ≤ 20000) (hc : T.length ≤ cap) (hm : cap ≤ maxLen) : Calls Tryz.prog 48 #[.slice A0 T.length cap] w fun e w1 => ∃ x : CmdV, e = .returned (.agg (cmdA x)) ∧ CmdVOk w1 x ∧ (∀ a, x.linesA = some a → w.heap.size ≤ a.block) ∧ x.lines.length ≤ 65 ∧ (dcS (false, T) = (false, []) → goodC (dcX (false, T) none 0) = true → ∃ A c, x = dcX (false, T) A c) ∧ Below w.heap.size w w1 := by
 have hp : ∀ (e : Ending) (w1 : World), (e = .returned (.agg (cmdA (dcX (false, T) none 0))) ∧ Below w.heap.size w w1) → numV (false, T) ≠ 8 → ∃ x : CmdV, e = .returned (.agg (cmdA x)) ∧ CmdVOk w1 x ∧ (∀ a, x.linesA = some a → w.heap.size ≤ a.block) ∧ x.lines.length ≤ 65 ∧ (dcS (false, T) = (false, []) → goodC (dcX (false, T) none 0) = true → ∃ A c, x = dcX (false, T) A c) ∧ Below w.heap.size w w1 := by
  intro e w1 h hn
  have hz : (dcX (false, T) none 0).lines = [] ∧ (dcX (false, T) none 0).linesA = none := ⟨dcX_none hn, dcX_noneA hn⟩
  exact ⟨_, h.1, dcX_ok (by rw [hz.1]; exact RowLineV.nil) (fun _ => ⟨hz.1, rfl⟩) (by rw [hz.1]; exact Nat.le_refl _) (Nat.zero_le _), fun a e => (by rw [hz.2] at e; cases e), by rw [hz.1]; exact Nat.zero_le _, fun _ _ => ⟨none, 0, rfl⟩, h.2⟩
 by_cases hk : numV (false, T) = 8
 · refine (dread_8 T A0 cap w hT hA hl hc hm hk).mono fun e w1 h => ?_
   obtain ⟨A, c, L, he, ho, h65, ⟨k, hex⟩, hcond, hb⟩ := h
   obtain ⟨A', c', e', hr, hA', hlc, hcm⟩ := ho.bounds
   injection e' with e1 e2 e3
   subst e1 e3
   have z : (⟨#[]⟩ : ByteArray).size ≤ 140737488351232 := Nat.zero_le _
   have tx : ∀ s, (textV s).size ≤ 140737488351232 := fun s => Nat.le_trans (text_small s) (by omega)
   have hfar : ∀ a, A = some a → w.heap.size ≤ a.block := fun a e => by
    subst e
    exact (ho.block a.block rfl).1
   refine ⟨_, he, ⟨z, z, tx _, tx _, tx _, tx _, tx _, hr, hA', hlc, hcm, fun r hr => ?_⟩, hfar, h65, fun h1 h2 => ⟨A, c, ?_⟩, hb⟩
   · have h := lines_small k _ r (hex ▸ hr)
     exact ⟨Nat.le_trans h.1 (by omega), Nat.le_trans h.2.1 (by omega), Nat.le_trans h.2.2 (by omega)⟩
   · rw [dcX_8 hk] at h2 ⊢
     rw [dcS_8 hk] at h1
     have h64 : numV (headS (numS (false, T))) ≤ 64 := rd_few h2
     have e : docR (numS (false, T)) = (headV (numS (false, T)), (linesR (numV (headS (numS (false, T)))).toNat (numS (headS (numS (false, T))))).1, (linesR (numV (headS (numS (false, T)))).toNat (numS (headS (numS (false, T))))).2) := by unfold docR; rw [if_neg (by omega)]
     have hL := hcond h64 (by unfold dcS8 at h1; rw [h1])
     rw [hL]
     unfold dcX8 cmd8
     rw [e]
 · exact (dread_o T A0 cap w hT hA hl hc hm hk).mono fun e w1 h => hp e w1 h hk
end Go.Proofs.YtmjjenemokojjaaGreat

namespace Go.Proofs.YtmjjenemokojjaaGreat
open Go.RowKit Go.ChangeShapes
set_option maxRecDepth 100000
set_option linter.unusedSimpArgs false
set_option linter.unusedVariables false

theorem simple_DF : DF (simpleD ⟨0, 0, none⟩ 1) := ⟨by decide, by decide, ⟨by decide, by decide⟩, by decide, by decide, by decide, by decide, fun l hl => by
 rw [List.mem_singleton.1 hl]
 exact ⟨⟨by decide, by decide⟩, ⟨by decide, by decide⟩, by decide, by decide, by decide, ⟨by decide, by decide⟩, ⟨by decide, by decide⟩⟩⟩
theorem simpleT_eq : simpleT = nB 8 ++ headW (simpleD ⟨0, 0, none⟩ 1) (linesW (simpleD ⟨0, 0, none⟩ 1).lines []) := by
 have hs := simple_bytes ⟨0, 0, none⟩ 1
 rw [show nextS (some []) (docN 8) = some (nB 8) by rw [docN_some (n := 8) ⟨by omega, by omega⟩]; rfl, docT_doc simple_DF (nB 8)] at hs
 exact (Option.some.inj hs).symm
theorem simple_kind : numV (false, simpleT) = 8 := by rw [simpleT_eq]; exact numV_doc ⟨by omega, by omega⟩ _ _
theorem simple_read : docR (numS (false, simpleT)) = ((⟨#[97]⟩, true, false, ⟨#[]⟩, 19000, ⟨#[68, 69]⟩, ⟨#[]⟩, ⟨#[]⟩), [simpleL], (false, [])) := by
 rw [simpleT_eq, numS_doc ⟨by omega, by omega⟩]
 exact docR_doc simple_DF false []
def simpleCs (A : Option Addr) (c : Nat) : Array Value := #[.int .i64 8, .string ⟨#[]⟩, .string ⟨#[]⟩, .int .i64 0, .int .i64 0, .int .i64 0, .int .i64 0, .int .i64 0, .int .i64 0, .int .i64 0, .int .i64 0, .int .i64 0, .int .i64 0, .string ⟨#[97]⟩, .bool true, .bool false, .string ⟨#[]⟩, .int .i64 19000, .string ⟨#[68, 69]⟩, .string ⟨#[]⟩, .string ⟨#[]⟩, .slice A 1 c]
theorem simpleCs_ok (A : Option Addr) (c : Nat) : (simpleCs A c).size = 22 ∧ (simpleCs A c).all (·.oneCell') = true := ⟨rfl, by simp [simpleCs, Value.oneCell']⟩
theorem decode_simple (A0 : Option Addr) (cap : Nat) (w : World) (hT : Txt w A0 simpleT) (hA : A0 = none → simpleT = []) :
 Calls Tryz.prog 16 #[.slice A0 simpleT.length cap] w fun e w1 => DecYes w simpleCs [simpleL] e w1 := by
 refine decode_yes simpleT A0 cap simpleCs [simpleL] (false, []) w (Nat.le_trans simpleT_len (by omega)) hT hA (Lib.hid fun W g _ hr => ?_) (Lib.hid fun A c => simpleCs_ok A c) rfl (Lib.hid fun W A c _ hr h1 h2 h3 => ?_)
 · refine (pread_8 g (false, simpleT) W hr simple_kind).mono fun e w1 h => ?_
   unfold dcX8 dcS8 at h
   rw [simple_read] at h
   obtain ⟨A, c, he, ho, hs⟩ := h
   exact ⟨A, c, he, ho, hs⟩
 · cases A with
   | none => exact absurd (h1 rfl).1 (by simp)
   | some A => exact good_simple A c W hr h2 h3
end Go.Proofs.YtmjjenemokojjaaGreat

namespace Go.Proofs.YtmjjenemokojjaaGreat
open Go.RowKit Go.ChangeShapes
set_option maxRecDepth 100000
set_option linter.unusedSimpArgs false
set_option linter.unusedVariables false

theorem rdYields_text {ops : Array Oper} {S : World → Prop} {o : Oper} {a : Act} (hw : Region.wanted o (yielded ops a.tmps) = true) (x : Operand) (ho : o.op = .convert 36 9 x) (A : Option Addr) (c n : Nat) (l : Text) (hn : l.length = n) (hx : a.eval x = .slice A n c)
 (hS : ∀ w, S w → Txt w A l) (hA : A = none → l = []) : YieldsIf Tryz.prog ops S o (.string ⟨l.toArray⟩) a := .inl ⟨hw, fun w hw' => by
 subst hn
 have hr := text_run w A c l (hS w hw') hA
 unfold execOp
 simp only [ho, hx]
 rw [Sem.run_bind, hr]
 rfl⟩
theorem simpleX_ok {A : Addr} {c : Nat} {W : World} (h : RowLineV W (some A) [simpleL]) (h1 : 1 ≤ c) (h2 : c ≤ maxLen) : CmdVOk W (simpleX A c) :=
 ⟨show (⟨#[]⟩ : ByteArray).size ≤ _ by decide, show (⟨#[]⟩ : ByteArray).size ≤ _ by decide, show (⟨#[97]⟩ : ByteArray).size ≤ _ by decide, show (⟨#[]⟩ : ByteArray).size ≤ _ by decide, show (⟨#[68, 69]⟩ : ByteArray).size ≤ _ by decide, show (⟨#[]⟩ : ByteArray).size ≤ _ by decide, show (⟨#[]⟩ : ByteArray).size ≤ _ by decide, h, fun e => absurd e (by simp [simpleX]), h1, h2, fun r hr => by
  have : r = simpleL := by simpa [simpleX] using hr
  subst this
  exact ⟨by decide, by decide, by decide⟩⟩
theorem same_simple (A B : Addr) (c d : Nat) (W : World) (hA : RowLineV W (some A) [simpleL]) (hB : RowLineV W (some B) [simpleL]) (h1 : 1 ≤ c) (h2 : c ≤ maxLen) (h3 : 1 ≤ d) (h4 : d ≤ maxLen) :
 Calls Tryz.prog 17 #[.agg (simpleCs (some A) c), .agg (simpleCs (some B) d)] W fun e w1 => e = .returned (.bool true) ∧ Below W.heap.size W w1 :=
 ref_same (simpleX A c) (simpleX B d) W (simpleX_ok hA h1 h2) (simpleX_ok hB h3 h4) (show ([simpleL] : List LineV).length ≤ _ by decide) true (show sameC (simpleX A c) (simpleX A c) = true from sameC_self _)
set_option maxHeartbeats 4000000 in
theorem rec_lives  (w : World) : Calls Tryz.prog 7 #[] w fun e w1 => e = .returned (.bool true) ∧ Below w.heap.size w w1 := by
 have HO1 : Hid (zeroCmd.size = 22) := Lib.hid rfl
 go_enter Tryz.func7, Tryz.ntmps7
 go_wp2_with (go_at_call 14; refine (encode_year _).mono ?_; rintro e w1 ⟨hb, A1, c1, rfl, ht, hn⟩; have HB1 := Lib.hid hb; have HT1 := Lib.hid ht; have HN1 := Lib.hid hn; clear hb ht hn; refine Stop.out ?_)
 unfold Stop
 go_wp2_with (go_at_call 19; refine (code_simple _).mono ?_; rintro e w2 ⟨Ax, rfl, hb, hr, hA⟩; have HB2 := Lib.hid (below_then HB1.out hb); have HT2 := Lib.hid (HT1.out.below hb); have HR2 := Lib.hid hr; have HA2 := Lib.hid hA; clear hb hr hA HB1 HT1; refine Stop.out ?_)
 unfold Stop
 go_wp2_with (go_at_call 14; refine (encode_simple Ax 1 _ HR2.out HA2.out (Nat.le_refl _) (by decide)).mono ?_; rintro e w3 ⟨hb, A3, c3, rfl, ht, hn⟩; have HB3 := Lib.hid (below_then HB2.out hb); have HT3 := Lib.hid (HT2.out.below hb); have HT3b := Lib.hid ht; have HN3 := Lib.hid hn; clear hb ht hn HB2 HT2 HR2 HA2; refine Stop.out ?_)
 unfold Stop
 go_wp2_with (go_at_call 16; refine (decode_simple A3 c3 _ HT3b.out HN3.out).mono ?_; rintro e w4 ⟨A4, c4, rfl, hr, hn, hl, hm, hb⟩; have HB4 := Lib.hid (below_then HB3.out hb); have HT4 := Lib.hid (HT3.out.below hb); have HR4 := Lib.hid hr; have HN4 := Lib.hid hn; have HL4 := Lib.hid (And.intro hl hm); clear hb hr hn hl hm HB3 HT3 HT3b HN3; refine Stop.out ?_)
 unfold Stop
 obtain ⟨A5, h5⟩ : ∃ A5, A4 = some A5 := by
  cases A4 with
  | none => exact absurd (HN4.out rfl).1 (by simp)
  | some A5 => exact ⟨A5, rfl⟩
 subst h5
 clear HN4
 have HSm : Hid (∀ (W : World) (Ay : Addr), RowLineV W (some A5) [simpleL] → RowLineV W (some Ay) [simpleL] → Calls Tryz.prog 17 #[.agg (simpleCs (some A5) c4), .agg #[.int .i64 8, .string ⟨#[]⟩, .string ⟨#[]⟩, .int .i64 0, .int .i64 0, .int .i64 0, .int .i64 0, .int .i64 0, .int .i64 0, .int .i64 0, .int .i64 0, .int .i64 0, .int .i64 0, .string ⟨#[97]⟩, .bool true, .bool false, .string ⟨#[]⟩, .int .i64 19000, .string ⟨#[68, 69]⟩, .string ⟨#[]⟩, .string ⟨#[]⟩, .slice (some Ay) 1 1]] W fun e w1 => e = .returned (.bool true) ∧ Below W.heap.size W w1) := Lib.hid (fun W Ay h h' => same_simple A5 Ay c4 1 W h h' HL4.out.1 HL4.out.2 (Nat.le_refl _) (by decide))
 have HCV := Lib.hid (simpleCs_ok (some A5) c4)
 generalize simpleCs (some A5) c4 = cv at HSm HCV ⊢
 have HX := Lib.hid (heap_alloc_new w4 (.cells zeroCmd 28))
 have HBn := Lib.hid (below_setRow (below_alloc w4 (.cells zeroCmd 28)) (Nat.le_refl w4.heap.size) cv)
 have HX3 := Lib.hid (setRow_heap (w4.alloc (.cells zeroCmd 28)) w4.heap.size _ cv _ _ HX.out)
 have HSZ : Hid (zeroCmd.size = cv.size) := Lib.hid (HO1.out.trans HCV.out.1.symm)
 have HI := Lib.hid (cmd_info HCV.out.1)
 go_wp2_with ((with_reducible refine wpList_store_row (o := ⟨none, _, _, _, _, _⟩) ?b1 28 (.tmp 5) (.tmp 21) ?b2 w4.heap.size cv ?b3 ?b4 28 zeroCmd HX.out ?b5 ?b6 ?b7 ?_); (case b1 => rfl); (case b2 => rfl); (case b3 => rfl); (case b4 => rfl); (case b5 => exact HI.out); (case b6 => exact HSZ.out); (case b7 => exact HCV.out.2); refine Stop.out ?_)
 unfold Stop
 generalize World.setRow _ _ _ = w5 at HBn HX3 ⊢
 generalize w4.heap.size = bb at HX3 ⊢
 clear HX
 go_wp2
 have HHd := Lib.hid (And.intro (heap_on (below_drew w5) HX3.out) ((HT4.out.below HBn.out).below (below_drew w5)))
 have HWdd := Lib.hid (below_then HBn.out (below_drew w5))
 refine wp_region_held_drew (S := fun V => V.heap[bb]? = some (.cells cv 28 (0, 0)) ∧ Txt V A1 [1, 11, 2, 7, 232]) (by kernel_rfl) HHd.out ?_
 intro hHeld
 clear HHd
 have HR5 := Lib.hid (HR4.out)
 generalize World.drew _ = wd at HWdd hHeld ⊢
 have HWd := HWdd
 clear HWdd
 (refine takeP (i := 0) ?_ rfl (.inl ⟨by rfl, ?_⟩) ?_; rotate_left; (focus ((intro wS hSw); (try dsimp only at hSw); obtain ⟨s0, s1⟩ := hSw; go_simp; (try with_reducible rfl); done)); (try simp only [Act.put, pA, pB, pC]))
 (refine takeH (i := 1) (v := (.string ⟨([1, 11, 2, 7, 232] : Text).toArray⟩)) rfl (by kernel_rfl) (by kernel_rfl) (by kernel_rfl) (fun _ _ _ h => h) (rdYields_text (by rfl) (.tmp 23) rfl A1 c1 5 [1, 11, 2, 7, 232] rfl rfl (fun _ h => h.2) HN1.out) (by assumption) ?_; (try simp only [Act.put, pA, pB, pC]))
 (refine takeP (i := 2) ?_ rfl (.inl ⟨by rfl, ?_⟩) ?_; rotate_left; (focus ((intro wS hSw); (try dsimp only at hSw); obtain ⟨s0, s1⟩ := hSw; go_simp; (try with_reducible rfl); done)); (try simp only [Act.put, pA, pB, pC]))
 (refine takeP (i := 3) ?_ rfl (.inl ⟨by rfl, ?_⟩) ?_; rotate_left; (focus ((intro wS hSw); (try dsimp only at hSw); obtain ⟨s0, s1⟩ := hSw; go_simp; (try with_reducible rfl); done)); (try simp only [Act.put, pA, pB, pC]))
 (refine takeP (i := 4) ?_ rfl (.inl ⟨by rfl, ?_⟩) ?_; rotate_left; (focus ((intro wS hSw); (try dsimp only at hSw); obtain ⟨s0, s1⟩ := hSw; go_simp; (try with_reducible rfl); done)); (try simp only [Act.put, pA, pB, pC]))
 (refine takeP (i := 5) ?_ rfl (.inl ⟨by rfl, ?_⟩) ?_; rotate_left; (focus ((intro wS hSw); (try dsimp only at hSw); obtain ⟨s0, s1⟩ := hSw; go_simp; (try with_reducible rfl); done)); (try simp only [Act.put, pA, pB, pC]))
 (refine takeP (i := 6) ?_ rfl (.inl ⟨by rfl, ?_⟩) ?_; rotate_left; (focus ((intro wS hSw); (try dsimp only at hSw); obtain ⟨s0, s1⟩ := hSw; go_simp; (try with_reducible rfl); done)); (try simp only [Act.put, pA, pB, pC]))
 (refine takeP (i := 7) ?_ rfl (.inl ⟨by rfl, ?_⟩) ?_; rotate_left; (focus ((intro wS hSw); (try dsimp only at hSw); obtain ⟨s0, s1⟩ := hSw; go_simp; (try with_reducible rfl); done)); (try simp only [Act.put, pA, pB, pC]))
 (refine takeP (i := 8) ?_ rfl (.inl ⟨by rfl, ?_⟩) ?_; rotate_left; (focus ((intro wS hSw); (try dsimp only at hSw); obtain ⟨s0, s1⟩ := hSw; go_simp; (try with_reducible rfl); done)); (try simp only [Act.put, pA, pB, pC]))
 (refine takeP (i := 9) ?_ rfl (.inl ⟨by rfl, ?_⟩) ?_; rotate_left; (focus ((intro wS hSw); (try dsimp only at hSw); obtain ⟨s0, s1⟩ := hSw; go_simp; (try with_reducible rfl); done)); (try simp only [Act.put, pA, pB, pC]))
 (refine takeP (i := 10) ?_ rfl (.inl ⟨by rfl, ?_⟩) ?_; rotate_left; (focus ((intro wS hSw); (try dsimp only at hSw); obtain ⟨s0, s1⟩ := hSw; go_simp; (try with_reducible rfl); done)); (try simp only [Act.put, pA, pB, pC]))
 (refine takeP (i := 11) ?_ rfl (.inl ⟨by rfl, ?_⟩) ?_; rotate_left; (focus ((intro wS hSw); (try dsimp only at hSw); obtain ⟨s0, s1⟩ := hSw; go_simp; (try with_reducible rfl); done)); (try simp only [Act.put, pA, pB, pC]))
 (refine takeP (i := 12) ?_ rfl (.inl ⟨by rfl, ?_⟩) ?_; rotate_left; (focus ((intro wS hSw); (try dsimp only at hSw); obtain ⟨s0, s1⟩ := hSw; go_simp; (try with_reducible rfl); done)); (try simp only [Act.put, pA, pB, pC]))
 (refine takeP (i := 13) ?_ rfl (.inl ⟨by rfl, ?_⟩) ?_; rotate_left; (focus ((intro wS hSw); (try dsimp only at hSw); obtain ⟨s0, s1⟩ := hSw; go_simp; (try with_reducible rfl); done)); (try simp only [Act.put, pA, pB, pC]))
 (refine takeP (i := 14) ?_ rfl (.inl ⟨by rfl, ?_⟩) ?_; rotate_left; (focus ((intro wS hSw); (try dsimp only at hSw); obtain ⟨s0, s1⟩ := hSw; go_simp; (try with_reducible rfl); done)); (try simp only [Act.put, pA, pB, pC]))
 (refine takeP (i := 15) ?_ rfl (.inl ⟨by rfl, ?_⟩) ?_; rotate_left; (focus ((intro wS hSw); (try dsimp only at hSw); obtain ⟨s0, s1⟩ := hSw; go_simp; (try with_reducible rfl); done)); (try simp only [Act.put, pA, pB, pC]))
 (refine takeH (i := 16) (v := (.agg cv)) rfl (by kernel_rfl) (by kernel_rfl) (by kernel_rfl) (fun _ _ _ h => h) (Or.inl ⟨by rfl, fun wS hSw => exec_load_row 28 (.tmp 5) rfl bb rfl 28 cv (0, 0) _ hSw.1 Tryz.underlying28 rfl HI.out⟩) (by assumption) ?_; (try simp only [Act.put, pA, pB, pC]))
 refine aloneH (i := 17) rfl (by kernel_rfl) (fun K hK => ?_)
 rw [if_pos (by rfl)]
 go_simp; ((refine (code_simple _).mono ?_); (rintro e w1 ⟨Ay, rfl, hb, hr, hA⟩); have HB1 := Lib.hid hb; have HRy := Lib.hid hr; clear hb hr hA; (try go_simp))
 refine hK.out _ _ (⟨heap_on HB1.out hHeld.1, (hHeld.2).below HB1.out⟩) ?_
 clear hK K hHeld; intro hHeld; (try simp only [Act.put, pA, pB, pC])
 refine aloneH (i := 18) rfl (by kernel_rfl) (fun K hK => ?_)
 rw [if_pos (by rfl)]
 go_simp; ((refine (HSm.out _ Ay (HR5.out.on (below_then HWd.out HB1.out)) HRy.out).mono ?_); (rintro e w2 ⟨rfl, hb⟩); have HB2 := Lib.hid hb; clear hb; (try go_simp))
 refine hK.out _ _ (⟨heap_on HB2.out hHeld.1, (hHeld.2).below HB2.out⟩) ?_
 clear hK K hHeld; intro hHeld; (try simp only [Act.put, pA, pB, pC])
 (refine takeP (i := 19) ?_ rfl (.inl ⟨by rfl, ?_⟩) ?_; rotate_left; (focus ((intro wS hSw); (try dsimp only at hSw); obtain ⟨s0, s1⟩ := hSw; go_simp; (try with_reducible rfl); done)); (try simp only [Act.put, pA, pB, pC]))
 (refine takeP (i := 20) ?_ rfl (.inl ⟨by rfl, ?_⟩) ?_; rotate_left; (focus ((intro wS hSw); (try dsimp only at hSw); obtain ⟨s0, s1⟩ := hSw; go_simp; (try with_reducible rfl); done)); (try simp only [Act.put, pA, pB]))
 refine wpAnyH_done (by kernel_rfl) ?_ _
 clear hHeld
 go_wp2
 go_ret
 exact ⟨rfl, below_then HB4.out (below_then HWd.out (below_then HB1.out HB2.out))⟩
end Go.Proofs.YtmjjenemokojjaaGreat

namespace Go.Proofs.YtmjjenemokojjaaGreat
open Go.RowKit
set_option maxRecDepth 100000
set_option linter.unusedSimpArgs false
set_option linter.unusedVariables false

theorem refEncode_1 (x : CmdV) (w : World) (hx : CmdVOk w x) (hn : x.lines.length ≤ 140737488351232) (hg : goodC x = true) (hk : x.kind = 1) : Calls Tryz.prog 15 #[.agg (cmdA x)] w (EncR w (encT x)) :=
 refEnc_1 (cmdA x) x w hk rfl (Lib.hid (fun W hb => by have h := ref_goodC x W (CmdVOk.on' hx hb) hn; rw [hg] at h; exact h)) (congrArg (fun z => some (Value.int .i64 z)) hk) rfl rfl rfl ((fit_1 hk hg).1) ((fit_1 hk hg).2.2) ((fit_1 hk hg).2.1)
theorem refEncode_2 (x : CmdV) (w : World) (hx : CmdVOk w x) (hn : x.lines.length ≤ 140737488351232) (hg : goodC x = true) (hk : x.kind = 2) : Calls Tryz.prog 15 #[.agg (cmdA x)] w (EncR w (encT x)) :=
 refEnc_2 (cmdA x) x w hk rfl (Lib.hid (fun W hb => by have h := ref_goodC x W (CmdVOk.on' hx hb) hn; rw [hg] at h; exact h)) (congrArg (fun z => some (Value.int .i64 z)) hk) rfl rfl rfl rfl rfl ((fit_2 hk hg).1) ((fit_2 hk hg).2.1) ((fit_2 hk hg).2.2.2.2) ((fit_2 hk hg).2.2.1) ((fit_2 hk hg).2.2.2.1)
theorem refEncode_3 (x : CmdV) (w : World) (hx : CmdVOk w x) (hn : x.lines.length ≤ 140737488351232) (hg : goodC x = true) (hk : x.kind = 3) : Calls Tryz.prog 15 #[.agg (cmdA x)] w (EncR w (encT x)) :=
 refEnc_3 (cmdA x) x w hk rfl (Lib.hid (fun W hb => by have h := ref_goodC x W (CmdVOk.on' hx hb) hn; rw [hg] at h; exact h)) (congrArg (fun z => some (Value.int .i64 z)) hk) rfl rfl ((fit_3 hk hg).1) ((fit_3 hk hg).2)
theorem refEncode_4 (x : CmdV) (w : World) (hx : CmdVOk w x) (hn : x.lines.length ≤ 140737488351232) (hg : goodC x = true) (hk : x.kind = 4) : Calls Tryz.prog 15 #[.agg (cmdA x)] w (EncR w (encT x)) :=
 refEnc_4 (cmdA x) x w hk rfl (Lib.hid (fun W hb => by have h := ref_goodC x W (CmdVOk.on' hx hb) hn; rw [hg] at h; exact h)) (congrArg (fun z => some (Value.int .i64 z)) hk) rfl rfl rfl rfl ((fit_4 hk hg).1) ((fit_4 hk hg).2.1) ((fit_4 hk hg).2.2.1) ((fit_4 hk hg).2.2.2)
theorem refEncode_5 (x : CmdV) (w : World) (hx : CmdVOk w x) (hn : x.lines.length ≤ 140737488351232) (hg : goodC x = true) (hk : x.kind = 5) : Calls Tryz.prog 15 #[.agg (cmdA x)] w (EncR w (encT x)) :=
 refEnc_5 (cmdA x) x w hk rfl (Lib.hid (fun W hb => by have h := ref_goodC x W (CmdVOk.on' hx hb) hn; rw [hg] at h; exact h)) (congrArg (fun z => some (Value.int .i64 z)) hk) rfl rfl rfl rfl rfl ((fit_5 hk hg).1) ((fit_5 hk hg).2.2.2.1) ((fit_5 hk hg).2.2.2.2) ((fit_5 hk hg).2.1) ((fit_5 hk hg).2.2.1)
theorem refEncode_6 (x : CmdV) (w : World) (hx : CmdVOk w x) (hn : x.lines.length ≤ 140737488351232) (hg : goodC x = true) (hk : x.kind = 6) : Calls Tryz.prog 15 #[.agg (cmdA x)] w (EncR w (encT x)) :=
 refEnc_6 (cmdA x) x w hk rfl (Lib.hid (fun W hb => by have h := ref_goodC x W (CmdVOk.on' hx hb) hn; rw [hg] at h; exact h)) (congrArg (fun z => some (Value.int .i64 z)) hk) rfl (fit_6 hk hg)
theorem refEncode_7 (x : CmdV) (w : World) (hx : CmdVOk w x) (hn : x.lines.length ≤ 140737488351232) (hg : goodC x = true) (hk : x.kind = 7) : Calls Tryz.prog 15 #[.agg (cmdA x)] w (EncR w (encT x)) :=
 refEnc_7 (cmdA x) x w hk rfl (Lib.hid (fun W hb => by have h := ref_goodC x W (CmdVOk.on' hx hb) hn; rw [hg] at h; exact h)) (congrArg (fun z => some (Value.int .i64 z)) hk) rfl rfl ((fit_7 hk hg).2) ((fit_7 hk hg).1)
theorem refEncode_8 (x : CmdV) (w : World) (hx : CmdVOk w x) (hn : x.lines.length ≤ 140737488351232) (hg : goodC x = true) (hk : x.kind = 8) : Calls Tryz.prog 15 #[.agg (cmdA x)] w (EncR w (encT x)) :=
 refEnc_8 (cmdA x) x w hk rfl (Lib.hid (fun W hb => by have h := ref_goodC x W (CmdVOk.on' hx hb) hn; rw [hg] at h; exact h)) (congrArg (fun z => some (Value.int .i64 z)) hk) rfl rfl rfl rfl rfl rfl rfl rfl rfl (fit_8 hk hg) hx.2.2.2.2.2.2.2.2.2.1 (fun W hb => hx.2.2.2.2.2.2.2.1.on hb)
theorem refEncode_9 (x : CmdV) (w : World) (hx : CmdVOk w x) (hn : x.lines.length ≤ 140737488351232) (hg : goodC x = true) (hk : x.kind = 9) : Calls Tryz.prog 15 #[.agg (cmdA x)] w (EncR w (encT x)) :=
 refEnc_9 (cmdA x) x w hk rfl (Lib.hid (fun W hb => by have h := ref_goodC x W (CmdVOk.on' hx hb) hn; rw [hg] at h; exact h)) (congrArg (fun z => some (Value.int .i64 z)) hk) rfl rfl rfl ((fit_9 hk hg).1) ((fit_9 hk hg).2.1) ((fit_9 hk hg).2.2)
theorem refEncode_10 (x : CmdV) (w : World) (hx : CmdVOk w x) (hn : x.lines.length ≤ 140737488351232) (hg : goodC x = true) (hk : x.kind = 10) : Calls Tryz.prog 15 #[.agg (cmdA x)] w (EncR w (encT x)) :=
 refEnc_10 (cmdA x) x w hk rfl (Lib.hid (fun W hb => by have h := ref_goodC x W (CmdVOk.on' hx hb) hn; rw [hg] at h; exact h)) (congrArg (fun z => some (Value.int .i64 z)) hk) rfl rfl rfl ((fit_10 hk hg).1) ((fit_10 hk hg).2.1) ((fit_10 hk hg).2.2)
theorem refEncode_11 (x : CmdV) (w : World) (hx : CmdVOk w x) (hn : x.lines.length ≤ 140737488351232) (hg : goodC x = true) (hk : x.kind = 11) : Calls Tryz.prog 15 #[.agg (cmdA x)] w (EncR w (encT x)) :=
 refEnc_11 (cmdA x) x w hk rfl (Lib.hid (fun W hb => by have h := ref_goodC x W (CmdVOk.on' hx hb) hn; rw [hg] at h; exact h)) (congrArg (fun z => some (Value.int .i64 z)) hk) rfl (fit_11 hk hg)
theorem refEncode_good (x : CmdV) (w : World) (hx : CmdVOk w x) (hn : x.lines.length ≤ 140737488351232) (hg : goodC x = true) : Calls Tryz.prog 15 #[.agg (cmdA x)] w (EncR w (encT x)) := by
 have hk := kind_in hg
 by_cases h1 : x.kind = 1
 · exact refEncode_1 x w hx hn hg h1
 by_cases h2 : x.kind = 2
 · exact refEncode_2 x w hx hn hg h2
 by_cases h3 : x.kind = 3
 · exact refEncode_3 x w hx hn hg h3
 by_cases h4 : x.kind = 4
 · exact refEncode_4 x w hx hn hg h4
 by_cases h5 : x.kind = 5
 · exact refEncode_5 x w hx hn hg h5
 by_cases h6 : x.kind = 6
 · exact refEncode_6 x w hx hn hg h6
 by_cases h7 : x.kind = 7
 · exact refEncode_7 x w hx hn hg h7
 by_cases h8 : x.kind = 8
 · exact refEncode_8 x w hx hn hg h8
 by_cases h9 : x.kind = 9
 · exact refEncode_9 x w hx hn hg h9
 by_cases h10 : x.kind = 10
 · exact refEncode_10 x w hx hn hg h10
 by_cases h11 : x.kind = 11
 · exact refEncode_11 x w hx hn hg h11
 omega
end Go.Proofs.YtmjjenemokojjaaGreat
