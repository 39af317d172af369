/- Commands as bytes: Encode, any command. Decode, of any bytes: the document's. Decode, of any bytes: the program's. Bytes that come in. -/
import Derived.Test.YtmjjenemokojjaaGreatD48
import Derived.WalkMore
import Derived.Test.YtmjjenemokojjaaGreatD52
import Derived.Test.YtmjjenemokojjaaGreatD51
import Derived.Test.YtmjjenemokojjaaGreatD47
import Derived.Laws.Rows
import Derived.Laws.Tables
import Derived.Laws.CopyRow
import Derived.Deep.Cut
import Derived.Deep.DeepCutAuto
import Derived.Laws.CopyOwn
import Derived.Test.YtmjjenemokojjaaGreatD32
import Derived.Test.YtmjjenemokojjaaGreatD2
import Derived.Test.YtmjjenemokojjaaGreatD1
namespace Go.Proofs.YtmjjenemokojjaaGreat
open Go.RowKit
set_option maxRecDepth 100000
set_option linter.unusedSimpArgs false
set_option linter.unusedVariables false

set_option maxHeartbeats 1000000 in
theorem encode_1 (x : CmdV) (w : World) (hx : CmdVOk w x) (hn : x.lines.length ≤ 140737488351232) (hM : MaxL w) (hg : goodC x = true) (hk : x.kind = 1) : Calls Tryz.prog 14 #[.agg (cmdA x)] w (EncP w (encT x)) :=
 encode_ok (cmdA x) (encT x) w rfl (Lib.hid (fun W hb => by have h := code_goodC x W (CmdVOk.on' hx hb) hn (hM.below hb); rw [hg] at h; exact h))
  (Lib.hid (fun W g v hb hw hB => by
   have hf := fit_1 hk hg
   have h := write_1 (cmdA x) x (w.heap.size + 1) g 0 (some []) v W hw hB (by simp) (by omega) (congrArg (fun z => some (Value.int .i64 z)) hk) rfl rfl rfl (by have := hf.1; omega) ⟨by have := (hf.2.2).1; omega, (hf.2.2).2⟩ ⟨by have := (hf.2.1).1; omega, (hf.2.1).2⟩
   rw [bytes_1 hk hg] at h
   exact h)) (by have := encT_len hg; omega)
set_option maxHeartbeats 1000000 in
theorem encode_2 (x : CmdV) (w : World) (hx : CmdVOk w x) (hn : x.lines.length ≤ 140737488351232) (hM : MaxL w) (hg : goodC x = true) (hk : x.kind = 2) : Calls Tryz.prog 14 #[.agg (cmdA x)] w (EncP w (encT x)) :=
 encode_ok (cmdA x) (encT x) w rfl (Lib.hid (fun W hb => by have h := code_goodC x W (CmdVOk.on' hx hb) hn (hM.below hb); rw [hg] at h; exact h))
  (Lib.hid (fun W g v hb hw hB => by
   have hf := fit_2 hk hg
   have h := write_2 (cmdA x) x (w.heap.size + 1) g 0 (some []) v W hw hB (by simp) (by omega) (congrArg (fun z => some (Value.int .i64 z)) hk) rfl rfl rfl rfl rfl (by have := hf.1; omega) ⟨by have := (hf.2.1).1; omega, (hf.2.1).2⟩ ⟨by have := (hf.2.2.2.2).1; omega, (hf.2.2.2.2).2⟩ ⟨by have := (hf.2.2.1).1; omega, (hf.2.2.1).2⟩ ⟨by have := (hf.2.2.2.1).1; omega, (hf.2.2.2.1).2⟩
   rw [bytes_2 hk hg] at h
   exact h)) (by have := encT_len hg; omega)
set_option maxHeartbeats 1000000 in
theorem encode_3 (x : CmdV) (w : World) (hx : CmdVOk w x) (hn : x.lines.length ≤ 140737488351232) (hM : MaxL w) (hg : goodC x = true) (hk : x.kind = 3) : Calls Tryz.prog 14 #[.agg (cmdA x)] w (EncP w (encT x)) :=
 encode_ok (cmdA x) (encT x) w rfl (Lib.hid (fun W hb => by have h := code_goodC x W (CmdVOk.on' hx hb) hn (hM.below hb); rw [hg] at h; exact h))
  (Lib.hid (fun W g v hb hw hB => by
   have hf := fit_3 hk hg
   have h := write_3 (cmdA x) x (w.heap.size + 1) g 0 (some []) v W hw hB (by simp) (by omega) (congrArg (fun z => some (Value.int .i64 z)) hk) rfl rfl ⟨by have := (hf.1).1; omega, (hf.1).2⟩ ⟨by have := (hf.2).1; omega, (hf.2).2⟩
   rw [bytes_3 hk hg] at h
   exact h)) (by have := encT_len hg; omega)
set_option maxHeartbeats 1000000 in
theorem encode_4 (x : CmdV) (w : World) (hx : CmdVOk w x) (hn : x.lines.length ≤ 140737488351232) (hM : MaxL w) (hg : goodC x = true) (hk : x.kind = 4) : Calls Tryz.prog 14 #[.agg (cmdA x)] w (EncP w (encT x)) :=
 encode_ok (cmdA x) (encT x) w rfl (Lib.hid (fun W hb => by have h := code_goodC x W (CmdVOk.on' hx hb) hn (hM.below hb); rw [hg] at h; exact h))
  (Lib.hid (fun W g v hb hw hB => by
   have hf := fit_4 hk hg
   have h := write_4 (cmdA x) x (w.heap.size + 1) g 0 (some []) v W hw hB (by simp) (by omega) (congrArg (fun z => some (Value.int .i64 z)) hk) rfl rfl rfl rfl (by have := hf.1; omega) (by have := hf.2.1; omega) ⟨by have := (hf.2.2.1).1; omega, (hf.2.2.1).2⟩ ⟨by have := (hf.2.2.2).1; omega, (hf.2.2.2).2⟩
   rw [bytes_4 hk hg] at h
   exact h)) (by have := encT_len hg; omega)
set_option maxHeartbeats 1000000 in
theorem encode_5 (x : CmdV) (w : World) (hx : CmdVOk w x) (hn : x.lines.length ≤ 140737488351232) (hM : MaxL w) (hg : goodC x = true) (hk : x.kind = 5) : Calls Tryz.prog 14 #[.agg (cmdA x)] w (EncP w (encT x)) :=
 encode_ok (cmdA x) (encT x) w rfl (Lib.hid (fun W hb => by have h := code_goodC x W (CmdVOk.on' hx hb) hn (hM.below hb); rw [hg] at h; exact h))
  (Lib.hid (fun W g v hb hw hB => by
   have hf := fit_5 hk hg
   have h := write_5 (cmdA x) x (w.heap.size + 1) g 0 (some []) v W hw hB (by simp) (by omega) (congrArg (fun z => some (Value.int .i64 z)) hk) rfl rfl rfl rfl rfl (by have := hf.1; omega) ⟨by have := (hf.2.2.2.1).1; omega, (hf.2.2.2.1).2⟩ ⟨by have := (hf.2.2.2.2).1; omega, (hf.2.2.2.2).2⟩ ⟨by have := (hf.2.1).1; omega, (hf.2.1).2⟩ ⟨by have := (hf.2.2.1).1; omega, (hf.2.2.1).2⟩
   rw [bytes_5 hk hg] at h
   exact h)) (by have := encT_len hg; omega)
set_option maxHeartbeats 1000000 in
theorem encode_6 (x : CmdV) (w : World) (hx : CmdVOk w x) (hn : x.lines.length ≤ 140737488351232) (hM : MaxL w) (hg : goodC x = true) (hk : x.kind = 6) : Calls Tryz.prog 14 #[.agg (cmdA x)] w (EncP w (encT x)) :=
 encode_ok (cmdA x) (encT x) w rfl (Lib.hid (fun W hb => by have h := code_goodC x W (CmdVOk.on' hx hb) hn (hM.below hb); rw [hg] at h; exact h))
  (Lib.hid (fun W g v hb hw hB => by
   have hf := fit_6 hk hg
   have h := write_6 (cmdA x) x (w.heap.size + 1) g 0 (some []) v W hw hB (by simp) (by omega) (congrArg (fun z => some (Value.int .i64 z)) hk) rfl (by have := hf; omega)
   rw [bytes_6 hk hg] at h
   exact h)) (by have := encT_len hg; omega)
set_option maxHeartbeats 1000000 in
theorem encode_7 (x : CmdV) (w : World) (hx : CmdVOk w x) (hn : x.lines.length ≤ 140737488351232) (hM : MaxL w) (hg : goodC x = true) (hk : x.kind = 7) : Calls Tryz.prog 14 #[.agg (cmdA x)] w (EncP w (encT x)) :=
 encode_ok (cmdA x) (encT x) w rfl (Lib.hid (fun W hb => by have h := code_goodC x W (CmdVOk.on' hx hb) hn (hM.below hb); rw [hg] at h; exact h))
  (Lib.hid (fun W g v hb hw hB => by
   have hf := fit_7 hk hg
   have h := write_7 (cmdA x) x (w.heap.size + 1) g 0 (some []) v W hw hB (by simp) (by omega) (congrArg (fun z => some (Value.int .i64 z)) hk) rfl rfl ⟨by have := (hf.2).1; omega, (hf.2).2⟩ ⟨by have := (hf.1).1; omega, (hf.1).2⟩
   rw [bytes_7 hk hg] at h
   exact h)) (by have := encT_len hg; omega)
set_option maxHeartbeats 1000000 in
theorem encode_8 (x : CmdV) (w : World) (hx : CmdVOk w x) (hn : x.lines.length ≤ 140737488351232) (hM : MaxL w) (hg : goodC x = true) (hk : x.kind = 8) : Calls Tryz.prog 14 #[.agg (cmdA x)] w (EncP w (encT x)) :=
 encode_ok (cmdA x) (encT x) w rfl (Lib.hid (fun W hb => by have h := code_goodC x W (CmdVOk.on' hx hb) hn (hM.below hb); rw [hg] at h; exact h))
  (Lib.hid (fun W g v hb hw hB => write_8 (cmdA x) (docOf x) (w.heap.size + 1) g (some []) (some (encT x)) v W hw hB (congrArg (fun z => some (Value.int .i64 z)) hk) ⟨rfl, rfl, rfl, rfl, rfl, rfl, rfl, rfl, rfl⟩ (by simp)
   (Lib.hid (fun W2 v2 hb2 hw2 hB2 => by
    have hf := fit_8 hk hg
    have h8 : nextS (some []) (docN 8) = some (nB 8) := by rw [docN_some (n := 8) ⟨by omega, by omega⟩]; rfl
    have hl8 := nB_len (n := 8) ⟨by omega, by omega⟩
    have hx2 := write_doc (docOf x) (w.heap.size + 1) g 70000 (nextS (some []) (docN 8)) v2 W2 hw2 hB2 (by rw [h8]; exact hl8) (by omega) (by have := hf.2.2.2.2.2.2.1; omega) hx.2.2.2.2.2.2.2.2.2.1 (by have := hf.1; omega) (by have := hf.2.1; omega) ⟨by have := hf.2.2.1.1; omega, hf.2.2.1.2, by have := hf.2.2.2.1; omega, by have := hf.2.2.2.2.1; omega, by have := hf.2.2.2.2.2.1; omega⟩
     (Lib.hid (fun W3 hb3 => hx.2.2.2.2.2.2.2.1.on (hb.trans ((hb2.trans hb3).mono (Nat.le_succ _)))))
     (Lib.hid (fun l hl => by
      have h := hf.2.2.2.2.2.2.2 l hl
      obtain ⟨h1, h2, h3, h4, h5, h6, h7⟩ := h
      exact ⟨⟨by have := h1.1; omega, h1.2⟩, ⟨by have := h2.1; omega, h2.2⟩, ⟨by have := h6.1; omega, h6.2⟩, ⟨by have := h7.1; omega, h7.2⟩, by omega, by omega, by omega⟩))
    have e : linesT (headT (nextS (some []) (docN 8)) (docOf x)) (docOf x).lines = some (encT x) := by
     rw [h8, docT_doc hf]
     unfold encT
     rw [bodyT_8 hk, hk]
     rfl
    rw [e] at hx2
    exact hx2)))) (by have := encT_len hg; omega)
set_option maxHeartbeats 1000000 in
theorem encode_9 (x : CmdV) (w : World) (hx : CmdVOk w x) (hn : x.lines.length ≤ 140737488351232) (hM : MaxL w) (hg : goodC x = true) (hk : x.kind = 9) : Calls Tryz.prog 14 #[.agg (cmdA x)] w (EncP w (encT x)) :=
 encode_ok (cmdA x) (encT x) w rfl (Lib.hid (fun W hb => by have h := code_goodC x W (CmdVOk.on' hx hb) hn (hM.below hb); rw [hg] at h; exact h))
  (Lib.hid (fun W g v hb hw hB => by
   have hf := fit_9 hk hg
   have h := write_9 (cmdA x) x (w.heap.size + 1) g 0 (some []) v W hw hB (by simp) (by omega) (congrArg (fun z => some (Value.int .i64 z)) hk) rfl rfl rfl ⟨by have := (hf.1).1; omega, (hf.1).2⟩ ⟨by have := (hf.2.1).1; omega, (hf.2.1).2⟩ ⟨by have := (hf.2.2).1; omega, (hf.2.2).2⟩
   rw [bytes_9 hk hg] at h
   exact h)) (by have := encT_len hg; omega)
set_option maxHeartbeats 1000000 in
theorem encode_10 (x : CmdV) (w : World) (hx : CmdVOk w x) (hn : x.lines.length ≤ 140737488351232) (hM : MaxL w) (hg : goodC x = true) (hk : x.kind = 10) : Calls Tryz.prog 14 #[.agg (cmdA x)] w (EncP w (encT x)) :=
 encode_ok (cmdA x) (encT x) w rfl (Lib.hid (fun W hb => by have h := code_goodC x W (CmdVOk.on' hx hb) hn (hM.below hb); rw [hg] at h; exact h))
  (Lib.hid (fun W g v hb hw hB => by
   have hf := fit_10 hk hg
   have h := write_10 (cmdA x) x (w.heap.size + 1) g 0 (some []) v W hw hB (by simp) (by omega) (congrArg (fun z => some (Value.int .i64 z)) hk) rfl rfl rfl ⟨by have := (hf.1).1; omega, (hf.1).2⟩ ⟨by have := (hf.2.1).1; omega, (hf.2.1).2⟩ ⟨by have := (hf.2.2).1; omega, (hf.2.2).2⟩
   rw [bytes_10 hk hg] at h
   exact h)) (by have := encT_len hg; omega)
set_option maxHeartbeats 1000000 in
theorem encode_11 (x : CmdV) (w : World) (hx : CmdVOk w x) (hn : x.lines.length ≤ 140737488351232) (hM : MaxL w) (hg : goodC x = true) (hk : x.kind = 11) : Calls Tryz.prog 14 #[.agg (cmdA x)] w (EncP w (encT x)) :=
 encode_ok (cmdA x) (encT x) w rfl (Lib.hid (fun W hb => by have h := code_goodC x W (CmdVOk.on' hx hb) hn (hM.below hb); rw [hg] at h; exact h))
  (Lib.hid (fun W g v hb hw hB => by
   have hf := (good_is_11 hk hg).1
   unfold perB Civ.good at hf
   simp only [Bool.and_eq_true, decide_eq_true_eq, beq_iff_eq] at hf
   have hl := nB_len (n := 11) ⟨by omega, by omega⟩
   have h := write_11 (cmdA x) x.py (w.heap.size + 1) g (some []) v W hw hB (congrArg (fun z => some (Value.int .i64 z)) hk) rfl (by omega) (by omega) (by simp) (by rw [docN_some (n := 11) ⟨by omega, by omega⟩]; simp only [next_some, List.nil_append, Option.getD_some]; omega)
   rw [bytes_11 hk hg] at h
   exact h)) (by have := encT_len hg; omega)
theorem encode_good (x : CmdV) (w : World) (hx : CmdVOk w x) (hn : x.lines.length ≤ 140737488351232) (hM : MaxL w) (hg : goodC x = true) : Calls Tryz.prog 14 #[.agg (cmdA x)] w (EncP w (encT x)) := by
 have hk := kind_in hg
 by_cases h1 : x.kind = 1
 · exact encode_1 x w hx hn hM hg h1
 by_cases h2 : x.kind = 2
 · exact encode_2 x w hx hn hM hg h2
 by_cases h3 : x.kind = 3
 · exact encode_3 x w hx hn hM hg h3
 by_cases h4 : x.kind = 4
 · exact encode_4 x w hx hn hM hg h4
 by_cases h5 : x.kind = 5
 · exact encode_5 x w hx hn hM hg h5
 by_cases h6 : x.kind = 6
 · exact encode_6 x w hx hn hM hg h6
 by_cases h7 : x.kind = 7
 · exact encode_7 x w hx hn hM hg h7
 by_cases h8 : x.kind = 8
 · exact encode_8 x w hx hn hM hg h8
 by_cases h9 : x.kind = 9
 · exact encode_9 x w hx hn hM hg h9
 by_cases h10 : x.kind = 10
 · exact encode_10 x w hx hn hM hg h10
 by_cases h11 : x.kind = 11
 · exact encode_11 x w hx hn hM hg h11
 omega
set_option maxHeartbeats 1000000 in
theorem encode_not (cs : Array Value) (w : World) (hs : cs.size = 22) (HGd : Hid (∀ W, Below w.heap.size w W → Calls Tryz.prog 8 #[.agg cs] W fun e w1 => e = .returned (.bool false) ∧ Below W.heap.size W w1)) : Calls Tryz.prog 14 #[.agg cs] w fun e w1 => e = .returned (.tuple #[.slice none 0 0, .int .i64 2]) ∧ Below w.heap.size w w1 := by
 have HX := Lib.hid (heap_alloc_new w (.cells cs 28))
 have HB0 := Lib.hid (below_alloc w (.cells cs 28))
 have HI := Lib.hid (cmd_info hs)
 clear hs
 go_enter Tryz.func14, Tryz.ntmps14
 go_wp2_with ((with_reducible refine wpList_load_row (o := ⟨some 5, _, _, _, _, _⟩) ?a1 28 (.tmp 1) ?a2 w.heap.size ?a3 28 cs (0, 0) _ HX.out Tryz.underlying28 ?a4 HI.out ?_); (case a1 => rfl); (case a2 => rfl); (case a3 => rfl); (case a4 => rfl); refine Stop.out ?_)
 unfold Stop
 go_wp2_with (go_at_call 8; refine (HGd.out _ HB0.out).mono ?_; rintro e w1 ⟨rfl, hb⟩; have HB1 := Lib.hid (below_then HB0.out hb); clear hb; refine Stop.out ?_)
 unfold Stop
 go_wp2
 go_ret2
 exact ⟨rfl, HB1.out⟩
end Go.Proofs.YtmjjenemokojjaaGreat

namespace Go.Proofs.YtmjjenemokojjaaGreat
open Go.RowKit
set_option maxRecDepth 100000
set_option linter.unusedSimpArgs false
set_option linter.unusedVariables false

theorem cmd_set {w : World} {x : CmdV} {r : Nat} {cs : Array Value} (h : CmdVOk w x) (hz : ∀ a, x.linesA = some a → a.block ≠ r) : CmdVOk (w.setRow r cs) x := by
 obtain ⟨s0, s1, s2, s3, s4, s5, s6, hr, a, lc, cm, g⟩ := h
 exact ⟨s0, s1, s2, s3, s4, s5, s6, row_setRow hr hz, a, lc, cm, g⟩
def DRef (T : Text) (w : World) (e : Ending) (w1 : World) : Prop := ∃ x : CmdV, (dcS (false, T) = (false, []) → goodC (dcX (false, T) none 0) = true → ∃ A c, x = dcX (false, T) A c) ∧ ((goodC x = true ∧ encT x = T ∧ e = .returned (.tuple #[.agg (cmdA x), .int .i64 0]) ∧ CmdVOk w1 x ∧ Below w.heap.size w w1) ∨ (¬ (goodC x = true ∧ encT x = T) ∧ DecNo w e w1))
set_option maxHeartbeats 8000000 in
theorem ref_decode (T : Text) (A0 : Option Addr) (cap : Nat) (w : World) (hT : Txt w A0 T) (hA : A0 = none → T = []) (hl : T.length ≤ 20000) (hc : T.length ≤ cap) (hm : cap ≤ maxLen) : Calls Tryz.prog 18 #[.slice A0 T.length cap] w fun e w1 => DRef T w e w1 := by
 have HRd := Lib.hid (dread_any T A0 cap (w.alloc (.cells zeroCmd 28)) (hT.alloc _) hA hl hc hm)
 have HZ := Lib.hid (heap_alloc_new w (.cells zeroCmd 28))
 have HLt0 : Hid (w.heap.size < (w.alloc (.cells zeroCmd 28)).heap.size) := Lib.hid (by simp)
 have HB0 := Lib.hid (below_alloc w (.cells zeroCmd 28))
 have HT := Lib.hid (And.intro (hT.alloc (.cells zeroCmd 28)) hA)
 clear hT hA hl hc hm
 go_enter Tryz.func18, Tryz.ntmps18
 go_upto_region 1 with fail
 generalize World.alloc w _ = w0 at HRd HZ HB0 HT HLt0 ⊢
 go_wp2_with (go_at_call 48; refine HRd.out.mono ?_; rintro e w1 ⟨x, rfl, hx, hfar, h65, hcond, hb⟩; have HX := Lib.hid hx; have HFar := Lib.hid hfar; have HFew := Lib.hid h65; have HCond := Lib.hid hcond; have HB1 := Lib.hid (below_then HB0.out hb); have HZ1 := Lib.hid (heap_on hb HZ.out); have HT1 := Lib.hid (HT.out.1.below hb); clear hx hfar h65 hcond hb; refine Stop.out ?_)
 unfold Stop
 have HCS : Hid ((cmdA x).size = 22 ∧ (cmdA x).all (·.oneCell') = true) := Lib.hid ⟨rfl, by simp [Value.oneCell', cmdA]⟩
 have HA := Lib.hid (heap_alloc_new w1 (.cells zeroCmd 28))
 have HI := Lib.hid (cmd_info HCS.out.1)
 generalize hcx : cmdA x = cx at HCS HI ⊢
 have HCX : Hid (cmdA x = cx) := Lib.hid hcx
 clear hcx HRd HZ HB0
 have HBn := Lib.hid (below_setRow (below_alloc w1 (.cells zeroCmd 28)) (Nat.le_refl w1.heap.size) cx)
 have HX3 := Lib.hid (setRow_heap (w1.alloc (.cells zeroCmd 28)) w1.heap.size _ cx _ _ HA.out)
 have HSZ : Hid (zeroCmd.size = cx.size) := Lib.hid HCS.out.1.symm
 go_wp2_with ((with_reducible apply wpList_store_row (ty := 28) (g := w1.heap.size) (cells := cx) (t := 28) (old := zeroCmd) (hg := HA.out) (hi := HI.out) (hold := HSZ.out) (h1 := HCS.out.2)); (case hgd => rfl); (case ho => rfl); (case hx => rfl); (case hy => rfl); refine Stop.out ?_)
 unfold Stop
 generalize World.setRow _ _ _ = w3 at HBn HX3 ⊢
 have HZ3 := Lib.hid (heap_on HBn.out HZ1.out)
 have HB3 := Lib.hid (below_then HB1.out HBn.out)
 have HXk := Lib.hid (CmdVOk.on' HX.out HBn.out)
 have HT3 := Lib.hid (HT1.out.below HBn.out)
 clear HA HBn HZ1 HB1 HT1 HX
 generalize w1.heap.size = bb at HX3 ⊢
 go_wp2_with ((with_reducible apply wpList_load_row (ty := 28) (g := bb) (t := 28) (cs := cx) (fr := (0, 0)) (hg := HX3.out) (hu := Tryz.underlying28) (hi := HI.out)); (case hgd => rfl); (case ho => rfl); (case hx => rfl); (case hd => rfl); refine Stop.out ?_)
 unfold Stop
 have HO1 : Hid (zeroCmd.all (·.oneCell') = true) := Lib.hid (by simp [Value.oneCell'])
 cases hg : goodC x with
 | false =>
   have HEn : Hid (Calls Tryz.prog 15 #[.agg cx] w3 fun e w1 => e = .returned (.tuple #[.slice none 0 0, .int .i64 2]) ∧ Below w3.heap.size w3 w1) := Lib.hid (by
    rw [← HCX.out]
    exact refEnc_not (cmdA x) w3 rfl (Lib.hid fun W hb => by have h := ref_goodC x W (CmdVOk.on' HXk.out hb) (Nat.le_trans HFew.out (by omega)); rw [hg] at h; exact h))
   go_wp2_with (go_at_call 15; refine HEn.out.mono ?_; rintro e w4 ⟨rfl, hb⟩; have HZ4 := Lib.hid (heap_on hb HZ3.out); have HB4 := Lib.hid (below_then HB3.out hb); clear hb; refine Stop.out ?_)
   unfold Stop
   go_wp2_with ((with_reducible apply wpList_store_row (ty := 28) (g := w.heap.size) (cells := zeroCmd) (t := 28) (old := zeroCmd) (hg := HZ4.out) (h1 := HO1.out)); (case hgd => rfl); (case ho => rfl); (case hx => rfl); (case hy => rfl); (case hi => exact cells_info'); (case hold => rfl); refine Stop.out ?_)
   unfold Stop
   have HP9 := Lib.hid (setRow_heap w4 w.heap.size _ (zeroCmd) _ _ HZ4.out)
   go_wp2
   exact bodyPost_ret (v := .tuple #[.agg (zeroCmd), .int .i64 10]) (results_row_tmp Tryz.results18 _ _ w.heap.size 28 (zeroCmd) (0, 0) _ rfl _ rfl HP9.out Tryz.underlying28 rfl cells_info') rfl ⟨x, HCond.out, .inr ⟨fun h => (by have := hg.symm.trans h.1; cases this), rfl, below_setRow HB4.out (Nat.le_refl _) _⟩⟩
 | true =>
   have HEn : Hid (Calls Tryz.prog 15 #[.agg cx] w3 (EncR w3 (encT x))) := Lib.hid (by
    rw [← HCX.out]
    exact refEncode_good x w3 HXk.out (Nat.le_trans HFew.out (by omega)) hg)
   have HG := Lib.hid hg
   clear hg
   by_cases hE : encT x = T
   · have HE := Lib.hid hE
     rw [hE] at HEn
     clear hE
     go_wp2_with (go_at_call 15; refine HEn.out.mono ?_; rintro e w4 ⟨v, rfl, ho, hb⟩; obtain ⟨A2, c2, rfl, ht2, hn2⟩ := own_txt ho; have HZ4 := Lib.hid (heap_on hb HZ3.out); have HX4 := Lib.hid (heap_on hb HX3.out); have HB4 := Lib.hid (below_then HB3.out hb); have HXk4 := Lib.hid (CmdVOk.on' HXk.out hb); have hs1 := text_run w4 A0 cap T (HT3.out.below hb) HT.out.2; have hs2 := text_run w4 A2 c2 T ht2 hn2; clear hb ho ht2 hn2; refine Stop.out ?_)
     unfold Stop
     go_wp2_with ((with_reducible apply wpList_load_row (ty := 28) (g := bb) (t := 28) (cs := cx) (fr := (0, 0)) (hg := HX4.out) (hu := Tryz.underlying28) (hi := HI.out)); (case hgd => rfl); (case ho => rfl); (case hx => rfl); (case hd => rfl); refine Stop.out ?_)
     unfold Stop
     clear hs1 hs2
     go_wp2_with ((with_reducible apply wpList_store_row (ty := 28) (g := w.heap.size) (cells := cx) (t := 28) (old := zeroCmd) (hg := HZ4.out) (hi := HI.out) (hold := HSZ.out) (h1 := HCS.out.2)); (case hgd => rfl); (case ho => rfl); (case hx => rfl); (case hy => rfl); refine Stop.out ?_)
     unfold Stop
     have HP9 := Lib.hid (setRow_heap w4 w.heap.size _ cx _ _ HZ4.out)
     have HB9 := Lib.hid (below_setRow HB4.out (Nat.le_refl _) cx)
     have HXk9 := Lib.hid (cmd_set (cs := cx) (r := w.heap.size) HXk4.out (fun a e => by have := HFar.out a e; have := HLt0.out; omega))
     go_wp2
     exact bodyPost_ret (v := .tuple #[.agg cx, .int .i64 0]) (results_row_tmp Tryz.results18 _ _ w.heap.size 28 cx (0, 0) _ rfl _ rfl HP9.out Tryz.underlying28 rfl HI.out) rfl ⟨x, HCond.out, .inl ⟨HG.out, HE.out, by rw [HCX.out], HXk9.out, HB9.out⟩⟩
   · have hne : (encT x == T) = false := beq_false_of_ne hE
     have HE := Lib.hid hE
     clear hE
     generalize encT x = TE at HEn hne ⊢
     go_wp2_with (go_at_call 15; refine HEn.out.mono ?_; rintro e w4 ⟨v, rfl, ho, hb⟩; obtain ⟨A2, c2, rfl, ht2, hn2⟩ := own_txt ho; have HZ4 := Lib.hid (heap_on hb HZ3.out); have HB4 := Lib.hid (below_then HB3.out hb); have hs1 := text_run w4 A0 cap T (HT3.out.below hb) HT.out.2; have hs2 := text_run w4 A2 c2 TE ht2 hn2; clear hb ho ht2 hn2; refine Stop.out ?_)
     unfold Stop
     go_wp2_with ((with_reducible apply wpList_store_row (ty := 28) (g := w.heap.size) (cells := zeroCmd) (t := 28) (old := zeroCmd) (hg := HZ4.out) (h1 := HO1.out)); (case hgd => rfl); (case ho => rfl); (case hx => rfl); (case hy => rfl); (case hi => exact cells_info'); (case hold => rfl); refine Stop.out ?_)
     unfold Stop
     have HP9 := Lib.hid (setRow_heap w4 w.heap.size _ (zeroCmd) _ _ HZ4.out)
     go_wp2
     exact bodyPost_ret (v := .tuple #[.agg (zeroCmd), .int .i64 10]) (results_row_tmp Tryz.results18 _ _ w.heap.size 28 (zeroCmd) (0, 0) _ rfl _ rfl HP9.out Tryz.underlying28 rfl cells_info') rfl ⟨x, HCond.out, .inr ⟨fun h => HE.out h.2, rfl, below_setRow HB4.out (Nat.le_refl _) _⟩⟩
end Go.Proofs.YtmjjenemokojjaaGreat

namespace Go.Proofs.YtmjjenemokojjaaGreat
open Go.RowKit
set_option maxRecDepth 100000
set_option linter.unusedSimpArgs false
set_option linter.unusedVariables false

theorem code_decode (T : Text) (A0 : Option Addr) (cap : Nat) (w : World) (hm : T.length ≤ 20000) (hT : Txt w A0 T) (hA : A0 = none → T = []) (hM : MaxL w) : Calls Tryz.prog 16 #[.slice A0 T.length cap] w fun e w1 =>
 (dcS (false, T) = (false, []) ∧ goodC (dcX (false, T) none 0) = true ∧ ∃ A c, e = .returned (.tuple #[.agg (cmdA (dcX (false, T) A c)), .int .i64 0]) ∧ CmdVOk w1 (dcX (false, T) A c) ∧ Below w.heap.size w w1) ∨ (¬ (dcS (false, T) = (false, []) ∧ goodC (dcX (false, T) none 0) = true) ∧ DecNo w e w1) := by
 have hrd : Hid (∀ (W : World) (g : Nat), Below w.heap.size w W → Rdr W g false T → Calls Tryz.prog 45 #[.pointer (some ⟨g, 0, none⟩)] W fun e w1 => ∃ A c, e = .returned (.agg ((fun A c => cmdA (dcX (false, T) A c)) A c)) ∧ OwnLineV w1 W.heap.size (.slice A (dcX (false, T) none 0).lines.length c) (dcX (false, T) none 0).lines ∧ RS W w1 g (dcS (false, T))) := Lib.hid fun W g _ hr => pread_any g (false, T) W hr
 have hc : Hid (∀ (A : Option Addr) (c : Nat), ((fun A c => cmdA (dcX (false, T) A c)) A c).size = 22 ∧ ((fun A c => cmdA (dcX (false, T) A c)) A c).all (·.oneCell') = true) := Lib.hid fun A c => ⟨rfl, by simp [Value.oneCell', cmdA]⟩
 by_cases hs : dcS (false, T) = (false, [])
 · have hgd : ∀ (W : World) (A : Option Addr) (c : Nat), Below w.heap.size w W → RowLineV W A (dcX (false, T) none 0).lines → (A = none → (dcX (false, T) none 0).lines = [] ∧ c = 0) → (dcX (false, T) none 0).lines.length ≤ c → c ≤ maxLen → Calls Tryz.prog 8 #[.agg (cmdA (dcX (false, T) A c))] W fun e w1 => e = .returned (.bool (goodC (dcX (false, T) none 0))) ∧ Below W.heap.size W w1 := by
    intro W A c hb hr h1 h2 h3
    have h := code_goodC (dcX (false, T) A c) W (dcX_ok hr h1 h2 h3) (Nat.le_trans (dcX_few _ _ _) (by omega)) (hM.below hb)
    rw [dcX_good] at h
    exact h
   cases hg : goodC (dcX (false, T) none 0) with
   | false => exact (decode_no T A0 cap _ _ _ w (by omega) hT hA hrd hc hs (Lib.hid fun W A c hb hr h1 h2 h3 => by have h := hgd W A c hb hr h1 h2 h3; rw [hg] at h; exact h)).mono fun e w1 h => .inr ⟨fun q => (by have := q.2; cases this), h⟩
   | true =>
     refine (decode_yes T A0 cap _ _ _ w (by omega) hT hA hrd hc hs (Lib.hid fun W A c hb hr h1 h2 h3 => by have h := hgd W A c hb hr h1 h2 h3; rw [hg] at h; exact h)).mono fun e w1 h => .inl ⟨hs, rfl, ?_⟩
     obtain ⟨A, c, he, hr, h1, h2, h3, hb⟩ := h
     exact ⟨A, c, he, dcX_ok hr h1 h2 h3, hb⟩
 · refine (decode_bad T A0 cap _ _ _ w (by omega) hT hA hrd hc ?_).mono fun e w1 h => .inr ⟨fun q => hs q.1, h⟩
   by_cases h1 : (dcS (false, T)).1 = true
   · exact .inl h1
   · refine .inr fun h2 => hs (Prod.ext ?_ h2)
     cases hx : (dcS (false, T)).1 with
     | false => rfl
     | true => exact absurd hx h1
end Go.Proofs.YtmjjenemokojjaaGreat

namespace Go.Proofs.YtmjjenemokojjaaGreat
open Go.ChangeShapes Go.WideShapes Go.ChangeAt Go.RowKit
set_option maxRecDepth 100000

section
variable {H : Type} {enc : TypeId × Value → H} {W : World}
/-- bytes that came in -/
theorem bytes_of {fuel : Nat} {v : Value} {base : Nat} {sp : Nat → Bool} {held : Bool} {x : DataW H × List MemPlace} (h : DataW.trod enc Tryz.prog W base sp held fuel 36 [v] = some x) :
 ∃ (a : Option Addr) (l : Text) (c : Nat), v = .slice a l.length c ∧ l.length ≤ c ∧ c ≤ maxLen ∧ Txt W a l ∧ (a = none → l = []) := by
 rcases open_ints Tryz.underlying36 Tryz.underlying5 (by kernel_rfl) h with ⟨hcs, _⟩ | ⟨y, n, cap, zs, hcs, _, hl, hm, hz, _, hcell, hwz⟩
 · simp at hcs
   subst hcs
   exact ⟨none, [], 0, rfl, Nat.le_refl _, Nat.zero_le _, Txt.none_, fun _ => rfl⟩
 · simp at hcs
   subst hcs
   have hlen : n ≤ zs.length := by
    rw [hz]
    cases sp y.block
    · simp
    · simpa using hl
   have hln : ((zs.take n).map fun z => UInt8.ofNat z.toNat).length = n := by simp; omega
   refine ⟨some y, (zs.take n).map fun z => UInt8.ofNat z.toNat, cap, by rw [hln], by rw [hln]; exact hl, hm, fun hn => ⟨y, rfl, ?_, fun i hi => ?_⟩, by simp⟩
   · have hp : 0 < n := by
      rcases Nat.eq_zero_or_pos n with h0 | h0
      · subst h0; simp at hn
      · exact h0
     have := hcell 0 (by omega)
     have h2 := block_lt_of_cell this
     rwa [add_block] at h2
   · have hi' : i < n := by simp at hi; omega
     rw [hcell i (by omega)]
     have hw : (Lit.int .u8 (zs.getD i 0)).wf = true := hwz _ (by
      have hi2 : i < zs.length := by omega
      rw [List.getD_eq_getElem?_getD, List.getElem?_eq_getElem hi2]
      exact List.getElem_mem hi2)
     have hz0 : zs[i]'(by omega) = zs.getD i 0 := by
      rw [List.getD_eq_getElem?_getD, List.getElem?_eq_getElem (by omega)]; rfl
     simp only [List.getElem_map, List.getElem_take, hz0]
     generalize zs.getD i 0 = z at *
     have hz1 : 0 ≤ z ∧ z < 256 := by
      simp [Lit.wf, IntKind.min, IntKind.max, IntKind.signed, IntKind.bits] at hw
      omega
     congr 2
     rw [UInt8.toNat_ofNat']
     omega
theorem open_bytes {r : Reach} {b0 base : Nat} {sp : Nat → Bool} {held : Bool} {v : Value} {d : DataW H} {p : List MemPlace} (hv : Value.okWide Tryz.prog W r b0 36 v) (h : DataW.Trod enc Tryz.prog W base sp held 36 v d p) :
 ∃ (A : Option Addr) (l : Text) (c : Nat), v = .slice A l.length c ∧ l.length ≤ c ∧ c ≤ maxLen ∧ Txt W A l ∧ (A = none → l = []) := by
 obtain ⟨a, n, c, rfl⟩ := okWide_slice Tryz.underlying36 hv
 obtain ⟨fuel, hf⟩ := h
 exact bytes_of (by simpa [Value.cells] using hf)
end
end Go.Proofs.YtmjjenemokojjaaGreat
