/- Documents as bytes: the document's. Commands as bytes: the document's, by kinds. -/
import Derived.Test.YtplghpamckdklaaGreatE44
import Derived.Test.YtplghpamckdklaaGreatE3
import Derived.WalkMore
import Derived.Test.YtplghpamckdklaaGreatE39
import Derived.Test.YtplghpamckdklaaGreatE9
namespace Go.Proofs.YtplghpamckdklaaGreat
open Go.RowKit
set_option maxRecDepth 100000
set_option linter.unusedSimpArgs false
set_option linter.unusedVariables false

theorem linesW_snoc (L : List LineV) (l : LineV) : linesW (L ++ [l]) [] = linesW L [] ++ lineW l [] := by
 induction L with
 | nil => rfl
 | cons a L ih =>
   show lineW a (linesW (L ++ [l]) []) = lineW a (linesW L []) ++ lineW l []
   rw [ih, lineW_app a (linesW L [] ++ lineW l []), lineW_app a (linesW L []), List.append_assoc]
set_option maxHeartbeats 8000000 in
theorem add_doc (d : DocV) (A : Option Addr) (v : Value) (T : Text) (B N : Nat) (w : World) (ho : OY w B v T [] N) (hN : N ≤ 100000000) (hf : DF d) (hlc : d.lines.length ≤ d.linesC) (hr : ∀ W, Below B w W → RowLineV W A d.lines) : Calls Tryz.prog 43 #[v, .agg #[.string d.id, .bool d.sale, .bool d.credit, .string d.refers, .int .i64 d.day, .string d.country, .string d.number, .string d.currency, .slice A d.lines.length d.linesC]] w fun e w1 => ∃ v1, e = .returned v1 ∧ OY w1 B v1 (T ++ headW d [] ++ linesW d.lines []) [] (N + 42000000) ∧ Below B w w1 := by
 have HNl : Hid (NR (d.lines.length : Int)) := Lib.hid ⟨by omega, by have := hf.2.2.2.2.2.2.1; omega⟩
 have HF := Lib.hid hf
 have HSa := Lib.hid (OY.start ho (.cells #[.string d.id, .bool d.sale, .bool d.credit, .string d.refers, .int .i64 d.day, .string d.country, .string d.number, .string d.currency, .slice A d.lines.length d.linesC] 26 (0, 0)))
 have HWa := Lib.hid ((Below.refl B w).alloc ho.2.2.1 (.cells #[.string d.id, .bool d.sale, .bool d.credit, .string d.refers, .int .i64 d.day, .string d.country, .string d.number, .string d.currency, .slice A d.lines.length d.linesC] 26 (0, 0)))
 have HN := Lib.hid hN
 have HLen := Lib.hid hf.2.2.2.2.2.2.1
 have hl4 : (d.lines.length : Int) ≤ 64 := by have := hf.2.2.2.2.2.2.1; omega
 have hlc' : (d.lines.length : Int) ≤ (d.linesC : Int) := by omega
 have HRow := Lib.hid hr
 clear ho hN hf hlc hr
 go_enter Tryz.func43, Tryz.ntmps43
 go_upto_region 1 with fail
 generalize hx : World.alloc w (.cells #[.string d.id, .bool d.sale, .bool d.credit, .string d.refers, .int .i64 d.day, .string d.country, .string d.number, .string d.currency, .slice A d.lines.length d.linesC] 26) = wz at HSa HWa ⊢
 clear hx
 obtain ⟨d0, d1, d2, d3, d4, d5, d6, d7, d8⟩ := cellsLineV HSa.out.box
 go_wp2_with (go_at_call 42; refine (HSa.out.text (d.id) HF.out.1 (by have := HN.out; omega)).mono ?_; rintro e wb0 ⟨vb0, rfl, hs, hb⟩; have HSb0 := Lib.hid hs; have HWb0 := Lib.hid (HWa.out.trans hb); clear hs hb; clear d0 d1 d2 d3 d4 d5 d6 d7 d8; obtain ⟨d0, d1, d2, d3, d4, d5, d6, d7, d8⟩ := cellsLineV HSb0.out.box; refine Stop.out ?_)
 unfold Stop
 go_wp2_with (go_at_call 72; refine (HSb0.out.flag (d.sale) (by have := HN.out; omega)).mono ?_; rintro e wb1 ⟨vb1, rfl, hs, hb⟩; have HSb1 := Lib.hid hs; have HWb1 := Lib.hid (HWb0.out.trans hb); clear hs hb; clear d0 d1 d2 d3 d4 d5 d6 d7 d8; obtain ⟨d0, d1, d2, d3, d4, d5, d6, d7, d8⟩ := cellsLineV HSb1.out.box; refine Stop.out ?_)
 unfold Stop
 go_wp2_with (go_at_call 72; refine (HSb1.out.flag (d.credit) (by have := HN.out; omega)).mono ?_; rintro e wb2 ⟨vb2, rfl, hs, hb⟩; have HSb2 := Lib.hid hs; have HWb2 := Lib.hid (HWb1.out.trans hb); clear hs hb; clear d0 d1 d2 d3 d4 d5 d6 d7 d8; obtain ⟨d0, d1, d2, d3, d4, d5, d6, d7, d8⟩ := cellsLineV HSb2.out.box; refine Stop.out ?_)
 unfold Stop
 go_wp2_with (go_at_call 42; refine (HSb2.out.text (d.refers) HF.out.2.1 (by have := HN.out; omega)).mono ?_; rintro e wb3 ⟨vb3, rfl, hs, hb⟩; have HSb3 := Lib.hid hs; have HWb3 := Lib.hid (HWb2.out.trans hb); clear hs hb; clear d0 d1 d2 d3 d4 d5 d6 d7 d8; obtain ⟨d0, d1, d2, d3, d4, d5, d6, d7, d8⟩ := cellsLineV HSb3.out.box; refine Stop.out ?_)
 unfold Stop
 go_wp2_with (go_at_call 41; refine (HSb3.out.num (d.day) HF.out.2.2.1 (by have := HN.out; omega)).mono ?_; rintro e wb4 ⟨vb4, rfl, hs, hb⟩; have HSb4 := Lib.hid hs; have HWb4 := Lib.hid (HWb3.out.trans hb); clear hs hb; clear d0 d1 d2 d3 d4 d5 d6 d7 d8; obtain ⟨d0, d1, d2, d3, d4, d5, d6, d7, d8⟩ := cellsLineV HSb4.out.box; refine Stop.out ?_)
 unfold Stop
 go_wp2_with (go_at_call 42; refine (HSb4.out.text (d.country) HF.out.2.2.2.1 (by have := HN.out; omega)).mono ?_; rintro e wb5 ⟨vb5, rfl, hs, hb⟩; have HSb5 := Lib.hid hs; have HWb5 := Lib.hid (HWb4.out.trans hb); clear hs hb; clear d0 d1 d2 d3 d4 d5 d6 d7 d8; obtain ⟨d0, d1, d2, d3, d4, d5, d6, d7, d8⟩ := cellsLineV HSb5.out.box; refine Stop.out ?_)
 unfold Stop
 go_wp2_with (go_at_call 42; refine (HSb5.out.text (d.number) HF.out.2.2.2.2.1 (by have := HN.out; omega)).mono ?_; rintro e wb6 ⟨vb6, rfl, hs, hb⟩; have HSb6 := Lib.hid hs; have HWb6 := Lib.hid (HWb5.out.trans hb); clear hs hb; clear d0 d1 d2 d3 d4 d5 d6 d7 d8; obtain ⟨d0, d1, d2, d3, d4, d5, d6, d7, d8⟩ := cellsLineV HSb6.out.box; refine Stop.out ?_)
 unfold Stop
 go_wp2_with (go_at_call 42; refine (HSb6.out.text (d.currency) HF.out.2.2.2.2.2.1 (by have := HN.out; omega)).mono ?_; rintro e wb7 ⟨vb7, rfl, hs, hb⟩; have HSb7 := Lib.hid hs; have HWb7 := Lib.hid (HWb6.out.trans hb); clear hs hb; clear d0 d1 d2 d3 d4 d5 d6 d7 d8; obtain ⟨d0, d1, d2, d3, d4, d5, d6, d7, d8⟩ := cellsLineV HSb7.out.box; refine Stop.out ?_)
 unfold Stop
 go_wp2_with (go_at_call 41; refine (HSb7.out.num d.lines.length HNl.out (by have := HN.out; omega)).mono ?_; rintro e wb8 ⟨vb8, rfl, hs, hb⟩; have HSb8 := Lib.hid hs; have HWb8 := Lib.hid (HWb7.out.trans hb); clear hs hb; clear d0 d1 d2 d3 d4 d5 d6 d7 d8; obtain ⟨d0, d1, d2, d3, d4, d5, d6, d7, d8⟩ := cellsLineV HSb8.out.box; refine Stop.out ?_)
 unfold Stop
 go_wp2
 have HS9 := Lib.hid (HSb8.out.to (T' := T ++ headW d []) (N' := N + 630000) (by unfold headW; simp only [List.append_assoc, List.append_nil]) (by omega))
 clear HSa HWa HSb0 HWb0 HSb1 HWb1 HSb2 HWb2 HSb3 HWb3 HSb4 HWb4 HSb5 HWb5 HSb6 HWb6 HSb7 HWb7 HSb8 d0 d1 d2 d3 d4 d5 d6 d7 d8
 have HW9 := HWb8
 clear HWb8
 obtain ⟨TH, hTH⟩ : ∃ TH, TH = T ++ headW d [] := ⟨_, rfl⟩
 rw [← hTH] at HS9
 have HTH := Lib.hid hTH
 clear hTH
 go_loopw [0, 5] (fun v i wr => ∃ (k : Nat), k ≤ d.lines.length ∧ i = .int .i64 k ∧ Hid (OY wr B v (TH ++ linesW (d.lines.take k) []) [(w.heap.size, (.cells #[.string d.id, .bool d.sale, .bool d.credit, .string d.refers, .int .i64 d.day, .string d.country, .string d.number, .string d.currency, .slice A d.lines.length d.linesC] 26 (0, 0)))] (N + 630000 + k * 630000)) ∧ Hid (Below B w wr)) (fun _ i _ => d.lines.length - (intOf i).toNat)
 case atStart => exact ⟨0, Nat.zero_le _, rfl, Lib.hid (HS9.out.to (by rw [List.take_zero]; exact (List.append_nil _).symm) (by omega)), HW9⟩
 case round =>
  obtain ⟨k, hk, rfl, HSr, HWr⟩ := hrel
  obtain ⟨d0, d1, d2, d3, d4, d5, d6, d7, d8⟩ := cellsLineV HSr.out.box
  by_cases hlt : k < d.lines.length
  · have hlt' : (k : Int) < (d.lines.length : Int) := by omega
    have HLk := Lib.hid (HF.out.2.2.2.2.2.2.2 _ (List.getElem_mem hlt))
    obtain ⟨a, o, rfl, hbl, y0, y1, y2, y3, y4, y5, y6, y7, y8⟩ := (HRow.out _ HWr.out).at_ k hlt
    obtain ⟨p, hp⟩ : ∃ p, p = d.lines[k] := ⟨_, rfl⟩
    rw [← hp] at y0 y1 y2 y3 y4 y5 y6 y7 y8 HLk
    have HP := Lib.hid hp
    clear hp d0 d1 d2 d3 d4 d5 d6 d7
    have HSc := Lib.hid (HSr.out.start (.cells #[.int .i64 p.1, .int .i64 p.2.1, .string p.2.2.1, .string p.2.2.2.1, .string p.2.2.2.2.1, .int .i64 p.2.2.2.2.2.1, .bool p.2.2.2.2.2.2.1, .int .i64 p.2.2.2.2.2.2.2.1, .bool p.2.2.2.2.2.2.2.2] 30 (0, 0)))
    have HWc := Lib.hid (HWr.out.alloc HSr.out.2.2.1 (.cells #[.int .i64 p.1, .int .i64 p.2.1, .string p.2.2.1, .string p.2.2.2.1, .string p.2.2.2.2.1, .int .i64 p.2.2.2.2.2.1, .bool p.2.2.2.2.2.2.1, .int .i64 p.2.2.2.2.2.2.2.1, .bool p.2.2.2.2.2.2.2.2] 30 (0, 0)))
    go_upto_region 14 with fail
    generalize hx : World.alloc wr (.cells #[.int .i64 p.1, .int .i64 p.2.1, .string p.2.2.1, .string p.2.2.2.1, .string p.2.2.2.2.1, .int .i64 p.2.2.2.2.2.1, .bool p.2.2.2.2.2.2.1, .int .i64 p.2.2.2.2.2.2.2.1, .bool p.2.2.2.2.2.2.2.2] 30) = wy at HSc HWc ⊢
    clear hx y0 y1 y2 y3 y4 y5 y6 y7 y8 d8
    obtain ⟨d0, d1, d2, d3, d4, d5, d6, d7, d8⟩ := cellsLineV HSc.out.box
    go_wp2_with (go_at_call 41; refine (HSc.out.num (p.1) HLk.out.1 (by have := HN.out; have := HLen.out; omega)).mono ?_; rintro e we0 ⟨ve0, rfl, hs, hb⟩; have HSe0 := Lib.hid hs; have HWe0 := Lib.hid (HWc.out.trans hb); clear hs hb; clear d0 d1 d2 d3 d4 d5 d6 d7 d8; obtain ⟨d0, d1, d2, d3, d4, d5, d6, d7, d8⟩ := cellsLineV HSe0.out.box; refine Stop.out ?_)
    unfold Stop
    go_wp2_with (go_at_call 41; refine (HSe0.out.num (p.2.1) HLk.out.2.1 (by have := HN.out; have := HLen.out; omega)).mono ?_; rintro e we1 ⟨ve1, rfl, hs, hb⟩; have HSe1 := Lib.hid hs; have HWe1 := Lib.hid (HWe0.out.trans hb); clear hs hb; clear d0 d1 d2 d3 d4 d5 d6 d7 d8; obtain ⟨d0, d1, d2, d3, d4, d5, d6, d7, d8⟩ := cellsLineV HSe1.out.box; refine Stop.out ?_)
    unfold Stop
    go_wp2_with (go_at_call 42; refine (HSe1.out.text (p.2.2.1) HLk.out.2.2.1 (by have := HN.out; have := HLen.out; omega)).mono ?_; rintro e we2 ⟨ve2, rfl, hs, hb⟩; have HSe2 := Lib.hid hs; have HWe2 := Lib.hid (HWe1.out.trans hb); clear hs hb; clear d0 d1 d2 d3 d4 d5 d6 d7 d8; obtain ⟨d0, d1, d2, d3, d4, d5, d6, d7, d8⟩ := cellsLineV HSe2.out.box; refine Stop.out ?_)
    unfold Stop
    go_wp2_with (go_at_call 42; refine (HSe2.out.text (p.2.2.2.1) HLk.out.2.2.2.1 (by have := HN.out; have := HLen.out; omega)).mono ?_; rintro e we3 ⟨ve3, rfl, hs, hb⟩; have HSe3 := Lib.hid hs; have HWe3 := Lib.hid (HWe2.out.trans hb); clear hs hb; clear d0 d1 d2 d3 d4 d5 d6 d7 d8; obtain ⟨d0, d1, d2, d3, d4, d5, d6, d7, d8⟩ := cellsLineV HSe3.out.box; refine Stop.out ?_)
    unfold Stop
    go_wp2_with (go_at_call 42; refine (HSe3.out.text (p.2.2.2.2.1) HLk.out.2.2.2.2.1 (by have := HN.out; have := HLen.out; omega)).mono ?_; rintro e we4 ⟨ve4, rfl, hs, hb⟩; have HSe4 := Lib.hid hs; have HWe4 := Lib.hid (HWe3.out.trans hb); clear hs hb; clear d0 d1 d2 d3 d4 d5 d6 d7 d8; obtain ⟨d0, d1, d2, d3, d4, d5, d6, d7, d8⟩ := cellsLineV HSe4.out.box; refine Stop.out ?_)
    unfold Stop
    go_wp2_with (go_at_call 41; refine (HSe4.out.num (p.2.2.2.2.2.1) HLk.out.2.2.2.2.2.1 (by have := HN.out; have := HLen.out; omega)).mono ?_; rintro e we5 ⟨ve5, rfl, hs, hb⟩; have HSe5 := Lib.hid hs; have HWe5 := Lib.hid (HWe4.out.trans hb); clear hs hb; clear d0 d1 d2 d3 d4 d5 d6 d7 d8; obtain ⟨d0, d1, d2, d3, d4, d5, d6, d7, d8⟩ := cellsLineV HSe5.out.box; refine Stop.out ?_)
    unfold Stop
    go_wp2_with (go_at_call 72; refine (HSe5.out.flag (p.2.2.2.2.2.2.1) (by have := HN.out; have := HLen.out; omega)).mono ?_; rintro e we6 ⟨ve6, rfl, hs, hb⟩; have HSe6 := Lib.hid hs; have HWe6 := Lib.hid (HWe5.out.trans hb); clear hs hb; clear d0 d1 d2 d3 d4 d5 d6 d7 d8; obtain ⟨d0, d1, d2, d3, d4, d5, d6, d7, d8⟩ := cellsLineV HSe6.out.box; refine Stop.out ?_)
    unfold Stop
    go_wp2_with (go_at_call 41; refine (HSe6.out.num (p.2.2.2.2.2.2.2.1) HLk.out.2.2.2.2.2.2 (by have := HN.out; have := HLen.out; omega)).mono ?_; rintro e we7 ⟨ve7, rfl, hs, hb⟩; have HSe7 := Lib.hid hs; have HWe7 := Lib.hid (HWe6.out.trans hb); clear hs hb; clear d0 d1 d2 d3 d4 d5 d6 d7 d8; obtain ⟨d0, d1, d2, d3, d4, d5, d6, d7, d8⟩ := cellsLineV HSe7.out.box; refine Stop.out ?_)
    unfold Stop
    go_wp2_with (go_at_call 72; refine (HSe7.out.flag (p.2.2.2.2.2.2.2.2) (by have := HN.out; have := HLen.out; omega)).mono ?_; rintro e we8 ⟨ve8, rfl, hs, hb⟩; have HSe8 := Lib.hid hs; have HWe8 := Lib.hid (HWe7.out.trans hb); clear hs hb; clear d0 d1 d2 d3 d4 d5 d6 d7 d8; obtain ⟨d0, d1, d2, d3, d4, d5, d6, d7, d8⟩ := cellsLineV HSe8.out.box; refine Stop.out ?_)
    unfold Stop
    go_wp2
    go_roundw
    case rel => exact ⟨k + 1, by omega, by go_num, Lib.hid (HSe8.out.drop.to (by rw [List.take_succ_eq_append_getElem hlt, linesW_snoc, ← HP.out]; unfold lineW; simp only [List.append_assoc, List.append_nil]) (by omega)), HWe8⟩
    case measure => simp [intOf]; omega
  · obtain rfl : k = d.lines.length := by omega
    clear d0 d1 d2 d3 d4 d5 d6 d7
    go_wp2
    go_ret
    exact ⟨_, rfl, HSr.out.drop.to (by rw [List.take_length, HTH.out]) (by omega), HWr.out⟩
end Go.Proofs.YtplghpamckdklaaGreat

namespace Go.Proofs.YtplghpamckdklaaGreat
open Go.RowKit
set_option maxRecDepth 100000
set_option linter.unusedSimpArgs false
set_option linter.unusedVariables false

/-- what the document's Encode tells of a command that may be -/
def EncR (w : World) (T : Text) (e : Ending) (w1 : World) : Prop := ∃ v, e = .returned (.tuple #[v, .int .i64 0]) ∧ OB w1 w.heap.size v T ∧ Below w.heap.size w w1
set_option maxHeartbeats 1000000 in
theorem refEnc_not (cs : Array Value) (w : World) (hs : cs.size = 22) (HGd : Hid (∀ W, Below w.heap.size w W → Calls Tryz.prog 9 #[.agg cs] W fun e w1 => e = .returned (.bool false) ∧ Below W.heap.size W w1)) : Calls Tryz.prog 15 #[.agg cs] w fun e w1 => e = .returned (.tuple #[.slice none 0 0, .int .i64 2]) ∧ Below w.heap.size w w1 := by
 have HX := Lib.hid (heap_alloc_new w (.cells cs 28))
 have HB0 := Lib.hid (below_alloc w (.cells cs 28))
 have HI := Lib.hid (cmd_info hs)
 clear hs
 go_enter Tryz.func15, Tryz.ntmps15
 go_wp2_with ((with_reducible refine wpList_load_row (o := ⟨some 5, _, _, _, _, _⟩) ?a1 28 (.tmp 1) ?a2 w.heap.size ?a3 28 cs (0, 0) _ HX.out Tryz.underlying28 ?a4 HI.out ?_); (case a1 => rfl); (case a2 => rfl); (case a3 => rfl); (case a4 => rfl); refine Stop.out ?_)
 unfold Stop
 go_wp2_with (go_at_call 9; refine (HGd.out _ HB0.out).mono ?_; rintro e w1 ⟨rfl, hb⟩; have HB1 := Lib.hid (below_then HB0.out hb); clear hb; refine Stop.out ?_)
 unfold Stop
 go_wp2
 go_ret2
 exact ⟨rfl, HB1.out⟩
theorem encTL_1 {x : CmdV} (hk : x.kind = 1) : (((([] ++ nB 1) ++ sB x.state) ++ nB x.index) ++ nB x.from_) = encT x := by
 unfold encT
 rw [bodyT_1 hk, hk]
 simp only [List.append_assoc, List.append_nil, List.nil_append]
set_option maxHeartbeats 4000000 in
theorem refEnc_1 (cs : Array Value) (x : CmdV) (w : World) (hkx : x.kind = 1) (hs : cs.size = 22) (HGd : Hid (∀ W, Below w.heap.size w W → Calls Tryz.prog 9 #[.agg cs] W fun e w1 => e = .returned (.bool true) ∧ Below W.heap.size W w1)) (hk : cs[0]? = some (.int .i64 1)) (h1 : cs[1]? = some (.string x.state)) (h5 : cs[5]? = some (.int .i64 x.from_)) (h9 : cs[9]? = some (.int .i64 x.index)) (b1 : x.state.size ≤ 65536) (b5 : NR x.from_) (b9 : NR x.index) : Calls Tryz.prog 15 #[.agg cs] w fun e w1 => EncR w (encT x) e w1 := by
 have HX := Lib.hid (heap_alloc_new w (.cells cs 28))
 have HB0 := Lib.hid (below_alloc w (.cells cs 28))
 have HI := Lib.hid (cmd_info hs)
 have HK := Lib.hid hk
 have HH := Lib.hid (And.intro h1 (And.intro h5 h9))
 have HR := Lib.hid (And.intro b1 (And.intro b5 b9))
 clear hs hk h1 h5 h9 b1 b5 b9
 go_enter Tryz.func15, Tryz.ntmps15
 go_wp2_with ((with_reducible refine wpList_load_row (o := ⟨some 5, _, _, _, _, _⟩) ?a1 28 (.tmp 1) ?a2 w.heap.size ?a3 28 cs (0, 0) _ HX.out Tryz.underlying28 ?a4 HI.out ?_); (case a1 => rfl); (case a2 => rfl); (case a3 => rfl); (case a4 => rfl); refine Stop.out ?_)
 unfold Stop
 go_wp2_with (go_at_call 9; refine (HGd.out _ HB0.out).mono ?_; rintro e w1 ⟨rfl, hb⟩; have HWa := Lib.hid (below_then HB0.out hb); have hx1 := heap_on hb HX.out; have HSa : Hid (OY w1 w.heap.size (.slice none 0 0) [] [(w.heap.size, (.cells cs 28 (0, 0)))] 0) := Lib.hid ⟨OB.nil _ _, fun p hp => (by have e := List.mem_singleton.1 hp; subst e; exact ⟨hx1, by simp [Value.ownBlock]⟩), HWa.out.size, Nat.le_refl _⟩; clear hb hx1; have k0 := (cell_of_row _ _ 0 _ _ _ HSa.out.box).trans HK.out; refine Stop.out ?_)
 unfold Stop
 clear HX HB0 HI HGd
 go_wp2_with (go_at_call 41; refine (HSa.out.num 1 ⟨by omega, by omega⟩ (by omega)).mono ?_; rintro e w2 ⟨v2, rfl, hs, hb⟩; have HSb := Lib.hid hs; have HWb := Lib.hid (HWa.out.trans hb); clear hs hb k0; have k0 := (cell_of_row _ _ 0 _ _ _ HSb.out.box).trans HK.out; refine Stop.out ?_)
 unfold Stop
 go_wp2
 have HScd := Lib.hid HSb.out.drew
 have HWcd := Lib.hid (HWb.out.trans ((Below.refl _ _).drew))
 (try clear k0)
 refine wp_region_held_drew (S := fun V => V.heap[w.heap.size]? = some (.cells cs 28 (0, 0))) (by kernel_rfl) HScd.out.box ?_
 intro hHeld
 generalize World.drew _ = wdc at HScd HWcd hHeld ⊢
 (refine takeP (i := 0) ?_ rfl (.inl ⟨by rfl, ?_⟩) ?_; rotate_left; (focus ((intro wS hSw); (try dsimp only at hSw); have s0 := (cell_of_row wS w.heap.size 1 _ _ _ hSw).trans HH.out.1; have s1 := (cell_of_row wS w.heap.size 5 _ _ _ hSw).trans HH.out.2.1; have s2 := (cell_of_row wS w.heap.size 9 _ _ _ hSw).trans HH.out.2.2; go_simp; (try with_reducible rfl); done)); (try simp only [Act.put, pA, pB, pC]))
 (refine takeP (i := 1) ?_ rfl (.inl ⟨by rfl, ?_⟩) ?_; rotate_left; (focus ((intro wS hSw); (try dsimp only at hSw); have s0 := (cell_of_row wS w.heap.size 1 _ _ _ hSw).trans HH.out.1; have s1 := (cell_of_row wS w.heap.size 5 _ _ _ hSw).trans HH.out.2.1; have s2 := (cell_of_row wS w.heap.size 9 _ _ _ hSw).trans HH.out.2.2; go_simp; (try with_reducible rfl); done)); (try simp only [Act.put, pA, pB, pC]))
 (refine takeP (i := 2) ?_ rfl (.inl ⟨by rfl, ?_⟩) ?_; rotate_left; (focus ((intro wS hSw); (try dsimp only at hSw); have s0 := (cell_of_row wS w.heap.size 1 _ _ _ hSw).trans HH.out.1; have s1 := (cell_of_row wS w.heap.size 5 _ _ _ hSw).trans HH.out.2.1; have s2 := (cell_of_row wS w.heap.size 9 _ _ _ hSw).trans HH.out.2.2; go_simp; (try with_reducible rfl); done)); (try simp only [Act.put, pA, pB, pC]))
 (refine takeP (i := 4) ?_ rfl (.inl ⟨by rfl, ?_⟩) ?_; rotate_left; (focus ((intro wS hSw); (try dsimp only at hSw); have s0 := (cell_of_row wS w.heap.size 1 _ _ _ hSw).trans HH.out.1; have s1 := (cell_of_row wS w.heap.size 5 _ _ _ hSw).trans HH.out.2.1; have s2 := (cell_of_row wS w.heap.size 9 _ _ _ hSw).trans HH.out.2.2; go_simp; (try with_reducible rfl); done)); (try simp only [Act.put, pA, pB, pC]))
 (refine takeP (i := 5) ?_ rfl (.inl ⟨by rfl, ?_⟩) ?_; rotate_left; (focus ((intro wS hSw); (try dsimp only at hSw); have s0 := (cell_of_row wS w.heap.size 1 _ _ _ hSw).trans HH.out.1; have s1 := (cell_of_row wS w.heap.size 5 _ _ _ hSw).trans HH.out.2.1; have s2 := (cell_of_row wS w.heap.size 9 _ _ _ hSw).trans HH.out.2.2; go_simp; (try with_reducible rfl); done)); (try simp only [Act.put, pA, pB, pC]))
 (refine takeP (i := 7) ?_ rfl (.inl ⟨by rfl, ?_⟩) ?_; rotate_left; (focus ((intro wS hSw); (try dsimp only at hSw); have s0 := (cell_of_row wS w.heap.size 1 _ _ _ hSw).trans HH.out.1; have s1 := (cell_of_row wS w.heap.size 5 _ _ _ hSw).trans HH.out.2.1; have s2 := (cell_of_row wS w.heap.size 9 _ _ _ hSw).trans HH.out.2.2; go_simp; (try with_reducible rfl); done)); (try simp only [Act.put, pA, pB, pC]))
 (refine takeP (i := 8) ?_ rfl (.inl ⟨by rfl, ?_⟩) ?_; rotate_left; (focus ((intro wS hSw); (try dsimp only at hSw); have s0 := (cell_of_row wS w.heap.size 1 _ _ _ hSw).trans HH.out.1; have s1 := (cell_of_row wS w.heap.size 5 _ _ _ hSw).trans HH.out.2.1; have s2 := (cell_of_row wS w.heap.size 9 _ _ _ hSw).trans HH.out.2.2; go_simp; (try with_reducible rfl); done)); (try simp only [Act.put, pA, pB, pC]))
 refine aloneH (i := 3) rfl (by kernel_rfl) (fun K hK => ?_)
 rw [if_pos (by rfl)]
 go_simp; ((refine (HScd.out.text x.state (HR.out.1) (by omega)).mono ?_); (rintro e wc1 ⟨vc1, rfl, hs, hb⟩); have HSc1 := Lib.hid hs; have HWc1 := Lib.hid (HWcd.out.trans hb); clear hs hb; (try go_simp))
 refine hK.out _ _ (HSc1.out.box) ?_
 clear hK K hHeld; intro hHeld; (try simp only [Act.put, pA, pB, pC])
 refine aloneH (i := 6) rfl (by kernel_rfl) (fun K hK => ?_)
 rw [if_pos (by rfl)]
 go_simp; ((refine (HSc1.out.num x.index (HR.out.2.2) (by omega)).mono ?_); (rintro e wc2 ⟨vc2, rfl, hs, hb⟩); have HSc2 := Lib.hid hs; have HWc2 := Lib.hid (HWc1.out.trans hb); clear hs hb; (try go_simp))
 refine hK.out _ _ (HSc2.out.box) ?_
 clear hK K hHeld; intro hHeld; (try simp only [Act.put, pA, pB, pC])
 refine aloneH (i := 9) rfl (by kernel_rfl) (fun K hK => ?_)
 rw [if_pos (by rfl)]
 go_simp; ((refine (HSc2.out.num x.from_ (HR.out.2.1) (by omega)).mono ?_); (rintro e wc3 ⟨vc3, rfl, hs, hb⟩); have HSc3 := Lib.hid hs; have HWc3 := Lib.hid (HWc2.out.trans hb); clear hs hb; (try go_simp))
 refine hK.out _ _ (HSc3.out.box) ?_
 clear hK K hHeld; intro hHeld; (try simp only [Act.put, pA, pB, pC])
 (refine takeP (i := 10) ?_ rfl (.inl ⟨by rfl, ?_⟩) ?_; rotate_left; (focus ((intro wS hSw); (try dsimp only at hSw); have s0 := (cell_of_row wS w.heap.size 1 _ _ _ hSw).trans HH.out.1; have s1 := (cell_of_row wS w.heap.size 5 _ _ _ hSw).trans HH.out.2.1; have s2 := (cell_of_row wS w.heap.size 9 _ _ _ hSw).trans HH.out.2.2; go_simp; (try with_reducible rfl); done)); (try simp only [Act.put, pA, pB, pC]))
 refine wpAnyH_done (by kernel_rfl) ?_ _
 clear hHeld
 go_wp2
 go_ret2
 exact ⟨vc3, rfl, by rw [← encTL_1 hkx]; exact HSc3.out.1, HWc3.out⟩
theorem encTL_2 {x : CmdV} (hk : x.kind = 2) : (((((([] ++ nB 2) ++ sB x.state) ++ nB x.category) ++ nB x.from_) ++ nB x.until_) ++ nB x.bp) = encT x := by
 unfold encT
 rw [bodyT_2 hk, hk]
 simp only [List.append_assoc, List.append_nil, List.nil_append]
set_option maxHeartbeats 4000000 in
theorem refEnc_2 (cs : Array Value) (x : CmdV) (w : World) (hkx : x.kind = 2) (hs : cs.size = 22) (HGd : Hid (∀ W, Below w.heap.size w W → Calls Tryz.prog 9 #[.agg cs] W fun e w1 => e = .returned (.bool true) ∧ Below W.heap.size W w1)) (hk : cs[0]? = some (.int .i64 2)) (h1 : cs[1]? = some (.string x.state)) (h3 : cs[3]? = some (.int .i64 x.category)) (h4 : cs[4]? = some (.int .i64 x.bp)) (h5 : cs[5]? = some (.int .i64 x.from_)) (h6 : cs[6]? = some (.int .i64 x.until_)) (b1 : x.state.size ≤ 65536) (b3 : NR x.category) (b4 : NR x.bp) (b5 : NR x.from_) (b6 : NR x.until_) : Calls Tryz.prog 15 #[.agg cs] w fun e w1 => EncR w (encT x) e w1 := by
 have HX := Lib.hid (heap_alloc_new w (.cells cs 28))
 have HB0 := Lib.hid (below_alloc w (.cells cs 28))
 have HI := Lib.hid (cmd_info hs)
 have HK := Lib.hid hk
 have HH := Lib.hid (And.intro h1 (And.intro h3 (And.intro h4 (And.intro h5 h6))))
 have HR := Lib.hid (And.intro b1 (And.intro b3 (And.intro b4 (And.intro b5 b6))))
 clear hs hk h1 h3 h4 h5 h6 b1 b3 b4 b5 b6
 go_enter Tryz.func15, Tryz.ntmps15
 go_wp2_with ((with_reducible refine wpList_load_row (o := ⟨some 5, _, _, _, _, _⟩) ?a1 28 (.tmp 1) ?a2 w.heap.size ?a3 28 cs (0, 0) _ HX.out Tryz.underlying28 ?a4 HI.out ?_); (case a1 => rfl); (case a2 => rfl); (case a3 => rfl); (case a4 => rfl); refine Stop.out ?_)
 unfold Stop
 go_wp2_with (go_at_call 9; refine (HGd.out _ HB0.out).mono ?_; rintro e w1 ⟨rfl, hb⟩; have HWa := Lib.hid (below_then HB0.out hb); have hx1 := heap_on hb HX.out; have HSa : Hid (OY w1 w.heap.size (.slice none 0 0) [] [(w.heap.size, (.cells cs 28 (0, 0)))] 0) := Lib.hid ⟨OB.nil _ _, fun p hp => (by have e := List.mem_singleton.1 hp; subst e; exact ⟨hx1, by simp [Value.ownBlock]⟩), HWa.out.size, Nat.le_refl _⟩; clear hb hx1; have k0 := (cell_of_row _ _ 0 _ _ _ HSa.out.box).trans HK.out; refine Stop.out ?_)
 unfold Stop
 clear HX HB0 HI HGd
 go_wp2_with (go_at_call 41; refine (HSa.out.num 2 ⟨by omega, by omega⟩ (by omega)).mono ?_; rintro e w2 ⟨v2, rfl, hs, hb⟩; have HSb := Lib.hid hs; have HWb := Lib.hid (HWa.out.trans hb); clear hs hb k0; have k0 := (cell_of_row _ _ 0 _ _ _ HSb.out.box).trans HK.out; refine Stop.out ?_)
 unfold Stop
 go_wp2
 have HScd := Lib.hid HSb.out.drew
 have HWcd := Lib.hid (HWb.out.trans ((Below.refl _ _).drew))
 (try clear k0)
 refine wp_region_held_drew (S := fun V => V.heap[w.heap.size]? = some (.cells cs 28 (0, 0))) (by kernel_rfl) HScd.out.box ?_
 intro hHeld
 generalize World.drew _ = wdc at HScd HWcd hHeld ⊢
 (refine takeP (i := 0) ?_ rfl (.inl ⟨by rfl, ?_⟩) ?_; rotate_left; (focus ((intro wS hSw); (try dsimp only at hSw); have s0 := (cell_of_row wS w.heap.size 1 _ _ _ hSw).trans HH.out.1; have s1 := (cell_of_row wS w.heap.size 3 _ _ _ hSw).trans HH.out.2.1; have s2 := (cell_of_row wS w.heap.size 4 _ _ _ hSw).trans HH.out.2.2.1; have s3 := (cell_of_row wS w.heap.size 5 _ _ _ hSw).trans HH.out.2.2.2.1; have s4 := (cell_of_row wS w.heap.size 6 _ _ _ hSw).trans HH.out.2.2.2.2; go_simp; (try with_reducible rfl); done)); (try simp only [Act.put, pA, pB, pC]))
 (refine takeP (i := 1) ?_ rfl (.inl ⟨by rfl, ?_⟩) ?_; rotate_left; (focus ((intro wS hSw); (try dsimp only at hSw); have s0 := (cell_of_row wS w.heap.size 1 _ _ _ hSw).trans HH.out.1; have s1 := (cell_of_row wS w.heap.size 3 _ _ _ hSw).trans HH.out.2.1; have s2 := (cell_of_row wS w.heap.size 4 _ _ _ hSw).trans HH.out.2.2.1; have s3 := (cell_of_row wS w.heap.size 5 _ _ _ hSw).trans HH.out.2.2.2.1; have s4 := (cell_of_row wS w.heap.size 6 _ _ _ hSw).trans HH.out.2.2.2.2; go_simp; (try with_reducible rfl); done)); (try simp only [Act.put, pA, pB, pC]))
 (refine takeP (i := 2) ?_ rfl (.inl ⟨by rfl, ?_⟩) ?_; rotate_left; (focus ((intro wS hSw); (try dsimp only at hSw); have s0 := (cell_of_row wS w.heap.size 1 _ _ _ hSw).trans HH.out.1; have s1 := (cell_of_row wS w.heap.size 3 _ _ _ hSw).trans HH.out.2.1; have s2 := (cell_of_row wS w.heap.size 4 _ _ _ hSw).trans HH.out.2.2.1; have s3 := (cell_of_row wS w.heap.size 5 _ _ _ hSw).trans HH.out.2.2.2.1; have s4 := (cell_of_row wS w.heap.size 6 _ _ _ hSw).trans HH.out.2.2.2.2; go_simp; (try with_reducible rfl); done)); (try simp only [Act.put, pA, pB, pC]))
 (refine takeP (i := 4) ?_ rfl (.inl ⟨by rfl, ?_⟩) ?_; rotate_left; (focus ((intro wS hSw); (try dsimp only at hSw); have s0 := (cell_of_row wS w.heap.size 1 _ _ _ hSw).trans HH.out.1; have s1 := (cell_of_row wS w.heap.size 3 _ _ _ hSw).trans HH.out.2.1; have s2 := (cell_of_row wS w.heap.size 4 _ _ _ hSw).trans HH.out.2.2.1; have s3 := (cell_of_row wS w.heap.size 5 _ _ _ hSw).trans HH.out.2.2.2.1; have s4 := (cell_of_row wS w.heap.size 6 _ _ _ hSw).trans HH.out.2.2.2.2; go_simp; (try with_reducible rfl); done)); (try simp only [Act.put, pA, pB, pC]))
 (refine takeP (i := 5) ?_ rfl (.inl ⟨by rfl, ?_⟩) ?_; rotate_left; (focus ((intro wS hSw); (try dsimp only at hSw); have s0 := (cell_of_row wS w.heap.size 1 _ _ _ hSw).trans HH.out.1; have s1 := (cell_of_row wS w.heap.size 3 _ _ _ hSw).trans HH.out.2.1; have s2 := (cell_of_row wS w.heap.size 4 _ _ _ hSw).trans HH.out.2.2.1; have s3 := (cell_of_row wS w.heap.size 5 _ _ _ hSw).trans HH.out.2.2.2.1; have s4 := (cell_of_row wS w.heap.size 6 _ _ _ hSw).trans HH.out.2.2.2.2; go_simp; (try with_reducible rfl); done)); (try simp only [Act.put, pA, pB, pC]))
 (refine takeP (i := 7) ?_ rfl (.inl ⟨by rfl, ?_⟩) ?_; rotate_left; (focus ((intro wS hSw); (try dsimp only at hSw); have s0 := (cell_of_row wS w.heap.size 1 _ _ _ hSw).trans HH.out.1; have s1 := (cell_of_row wS w.heap.size 3 _ _ _ hSw).trans HH.out.2.1; have s2 := (cell_of_row wS w.heap.size 4 _ _ _ hSw).trans HH.out.2.2.1; have s3 := (cell_of_row wS w.heap.size 5 _ _ _ hSw).trans HH.out.2.2.2.1; have s4 := (cell_of_row wS w.heap.size 6 _ _ _ hSw).trans HH.out.2.2.2.2; go_simp; (try with_reducible rfl); done)); (try simp only [Act.put, pA, pB, pC]))
 (refine takeP (i := 8) ?_ rfl (.inl ⟨by rfl, ?_⟩) ?_; rotate_left; (focus ((intro wS hSw); (try dsimp only at hSw); have s0 := (cell_of_row wS w.heap.size 1 _ _ _ hSw).trans HH.out.1; have s1 := (cell_of_row wS w.heap.size 3 _ _ _ hSw).trans HH.out.2.1; have s2 := (cell_of_row wS w.heap.size 4 _ _ _ hSw).trans HH.out.2.2.1; have s3 := (cell_of_row wS w.heap.size 5 _ _ _ hSw).trans HH.out.2.2.2.1; have s4 := (cell_of_row wS w.heap.size 6 _ _ _ hSw).trans HH.out.2.2.2.2; go_simp; (try with_reducible rfl); done)); (try simp only [Act.put, pA, pB, pC]))
 (refine takeP (i := 10) ?_ rfl (.inl ⟨by rfl, ?_⟩) ?_; rotate_left; (focus ((intro wS hSw); (try dsimp only at hSw); have s0 := (cell_of_row wS w.heap.size 1 _ _ _ hSw).trans HH.out.1; have s1 := (cell_of_row wS w.heap.size 3 _ _ _ hSw).trans HH.out.2.1; have s2 := (cell_of_row wS w.heap.size 4 _ _ _ hSw).trans HH.out.2.2.1; have s3 := (cell_of_row wS w.heap.size 5 _ _ _ hSw).trans HH.out.2.2.2.1; have s4 := (cell_of_row wS w.heap.size 6 _ _ _ hSw).trans HH.out.2.2.2.2; go_simp; (try with_reducible rfl); done)); (try simp only [Act.put, pA, pB, pC]))
 (refine takeP (i := 11) ?_ rfl (.inl ⟨by rfl, ?_⟩) ?_; rotate_left; (focus ((intro wS hSw); (try dsimp only at hSw); have s0 := (cell_of_row wS w.heap.size 1 _ _ _ hSw).trans HH.out.1; have s1 := (cell_of_row wS w.heap.size 3 _ _ _ hSw).trans HH.out.2.1; have s2 := (cell_of_row wS w.heap.size 4 _ _ _ hSw).trans HH.out.2.2.1; have s3 := (cell_of_row wS w.heap.size 5 _ _ _ hSw).trans HH.out.2.2.2.1; have s4 := (cell_of_row wS w.heap.size 6 _ _ _ hSw).trans HH.out.2.2.2.2; go_simp; (try with_reducible rfl); done)); (try simp only [Act.put, pA, pB, pC]))
 (refine takeP (i := 13) ?_ rfl (.inl ⟨by rfl, ?_⟩) ?_; rotate_left; (focus ((intro wS hSw); (try dsimp only at hSw); have s0 := (cell_of_row wS w.heap.size 1 _ _ _ hSw).trans HH.out.1; have s1 := (cell_of_row wS w.heap.size 3 _ _ _ hSw).trans HH.out.2.1; have s2 := (cell_of_row wS w.heap.size 4 _ _ _ hSw).trans HH.out.2.2.1; have s3 := (cell_of_row wS w.heap.size 5 _ _ _ hSw).trans HH.out.2.2.2.1; have s4 := (cell_of_row wS w.heap.size 6 _ _ _ hSw).trans HH.out.2.2.2.2; go_simp; (try with_reducible rfl); done)); (try simp only [Act.put, pA, pB, pC]))
 (refine takeP (i := 14) ?_ rfl (.inl ⟨by rfl, ?_⟩) ?_; rotate_left; (focus ((intro wS hSw); (try dsimp only at hSw); have s0 := (cell_of_row wS w.heap.size 1 _ _ _ hSw).trans HH.out.1; have s1 := (cell_of_row wS w.heap.size 3 _ _ _ hSw).trans HH.out.2.1; have s2 := (cell_of_row wS w.heap.size 4 _ _ _ hSw).trans HH.out.2.2.1; have s3 := (cell_of_row wS w.heap.size 5 _ _ _ hSw).trans HH.out.2.2.2.1; have s4 := (cell_of_row wS w.heap.size 6 _ _ _ hSw).trans HH.out.2.2.2.2; go_simp; (try with_reducible rfl); done)); (try simp only [Act.put, pA, pB, pC]))
 refine aloneH (i := 3) rfl (by kernel_rfl) (fun K hK => ?_)
 rw [if_pos (by rfl)]
 go_simp; ((refine (HScd.out.text x.state (HR.out.1) (by omega)).mono ?_); (rintro e wc1 ⟨vc1, rfl, hs, hb⟩); have HSc1 := Lib.hid hs; have HWc1 := Lib.hid (HWcd.out.trans hb); clear hs hb; (try go_simp))
 refine hK.out _ _ (HSc1.out.box) ?_
 clear hK K hHeld; intro hHeld; (try simp only [Act.put, pA, pB, pC])
 refine aloneH (i := 6) rfl (by kernel_rfl) (fun K hK => ?_)
 rw [if_pos (by rfl)]
 go_simp; ((refine (HSc1.out.num x.category (HR.out.2.1) (by omega)).mono ?_); (rintro e wc2 ⟨vc2, rfl, hs, hb⟩); have HSc2 := Lib.hid hs; have HWc2 := Lib.hid (HWc1.out.trans hb); clear hs hb; (try go_simp))
 refine hK.out _ _ (HSc2.out.box) ?_
 clear hK K hHeld; intro hHeld; (try simp only [Act.put, pA, pB, pC])
 refine aloneH (i := 9) rfl (by kernel_rfl) (fun K hK => ?_)
 rw [if_pos (by rfl)]
 go_simp; ((refine (HSc2.out.num x.from_ (HR.out.2.2.2.1) (by omega)).mono ?_); (rintro e wc3 ⟨vc3, rfl, hs, hb⟩); have HSc3 := Lib.hid hs; have HWc3 := Lib.hid (HWc2.out.trans hb); clear hs hb; (try go_simp))
 refine hK.out _ _ (HSc3.out.box) ?_
 clear hK K hHeld; intro hHeld; (try simp only [Act.put, pA, pB, pC])
 refine aloneH (i := 12) rfl (by kernel_rfl) (fun K hK => ?_)
 rw [if_pos (by rfl)]
 go_simp; ((refine (HSc3.out.num x.until_ (HR.out.2.2.2.2) (by omega)).mono ?_); (rintro e wc4 ⟨vc4, rfl, hs, hb⟩); have HSc4 := Lib.hid hs; have HWc4 := Lib.hid (HWc3.out.trans hb); clear hs hb; (try go_simp))
 refine hK.out _ _ (HSc4.out.box) ?_
 clear hK K hHeld; intro hHeld; (try simp only [Act.put, pA, pB, pC])
 refine aloneH (i := 15) rfl (by kernel_rfl) (fun K hK => ?_)
 rw [if_pos (by rfl)]
 go_simp; ((refine (HSc4.out.num x.bp (HR.out.2.2.1) (by omega)).mono ?_); (rintro e wc5 ⟨vc5, rfl, hs, hb⟩); have HSc5 := Lib.hid hs; have HWc5 := Lib.hid (HWc4.out.trans hb); clear hs hb; (try go_simp))
 refine hK.out _ _ (HSc5.out.box) ?_
 clear hK K hHeld; intro hHeld; (try simp only [Act.put, pA, pB, pC])
 (refine takeP (i := 16) ?_ rfl (.inl ⟨by rfl, ?_⟩) ?_; rotate_left; (focus ((intro wS hSw); (try dsimp only at hSw); have s0 := (cell_of_row wS w.heap.size 1 _ _ _ hSw).trans HH.out.1; have s1 := (cell_of_row wS w.heap.size 3 _ _ _ hSw).trans HH.out.2.1; have s2 := (cell_of_row wS w.heap.size 4 _ _ _ hSw).trans HH.out.2.2.1; have s3 := (cell_of_row wS w.heap.size 5 _ _ _ hSw).trans HH.out.2.2.2.1; have s4 := (cell_of_row wS w.heap.size 6 _ _ _ hSw).trans HH.out.2.2.2.2; go_simp; (try with_reducible rfl); done)); (try simp only [Act.put, pA, pB, pC]))
 refine wpAnyH_done (by kernel_rfl) ?_ _
 clear hHeld
 go_wp2
 go_ret2
 exact ⟨vc5, rfl, by rw [← encTL_2 hkx]; exact HSc5.out.1, HWc5.out⟩
theorem encTL_3 {x : CmdV} (hk : x.kind = 3) : ((([] ++ nB 3) ++ nB x.from_) ++ nB x.until_) = encT x := by
 unfold encT
 rw [bodyT_3 hk, hk]
 simp only [List.append_assoc, List.append_nil, List.nil_append]
set_option maxHeartbeats 4000000 in
theorem refEnc_3 (cs : Array Value) (x : CmdV) (w : World) (hkx : x.kind = 3) (hs : cs.size = 22) (HGd : Hid (∀ W, Below w.heap.size w W → Calls Tryz.prog 9 #[.agg cs] W fun e w1 => e = .returned (.bool true) ∧ Below W.heap.size W w1)) (hk : cs[0]? = some (.int .i64 3)) (h5 : cs[5]? = some (.int .i64 x.from_)) (h6 : cs[6]? = some (.int .i64 x.until_)) (b5 : NR x.from_) (b6 : NR x.until_) : Calls Tryz.prog 15 #[.agg cs] w fun e w1 => EncR w (encT x) e w1 := by
 have HX := Lib.hid (heap_alloc_new w (.cells cs 28))
 have HB0 := Lib.hid (below_alloc w (.cells cs 28))
 have HI := Lib.hid (cmd_info hs)
 have HK := Lib.hid hk
 have HH := Lib.hid (And.intro h5 h6)
 have HR := Lib.hid (And.intro b5 b6)
 clear hs hk h5 h6 b5 b6
 go_enter Tryz.func15, Tryz.ntmps15
 go_wp2_with ((with_reducible refine wpList_load_row (o := ⟨some 5, _, _, _, _, _⟩) ?a1 28 (.tmp 1) ?a2 w.heap.size ?a3 28 cs (0, 0) _ HX.out Tryz.underlying28 ?a4 HI.out ?_); (case a1 => rfl); (case a2 => rfl); (case a3 => rfl); (case a4 => rfl); refine Stop.out ?_)
 unfold Stop
 go_wp2_with (go_at_call 9; refine (HGd.out _ HB0.out).mono ?_; rintro e w1 ⟨rfl, hb⟩; have HWa := Lib.hid (below_then HB0.out hb); have hx1 := heap_on hb HX.out; have HSa : Hid (OY w1 w.heap.size (.slice none 0 0) [] [(w.heap.size, (.cells cs 28 (0, 0)))] 0) := Lib.hid ⟨OB.nil _ _, fun p hp => (by have e := List.mem_singleton.1 hp; subst e; exact ⟨hx1, by simp [Value.ownBlock]⟩), HWa.out.size, Nat.le_refl _⟩; clear hb hx1; have k0 := (cell_of_row _ _ 0 _ _ _ HSa.out.box).trans HK.out; refine Stop.out ?_)
 unfold Stop
 clear HX HB0 HI HGd
 go_wp2_with (go_at_call 41; refine (HSa.out.num 3 ⟨by omega, by omega⟩ (by omega)).mono ?_; rintro e w2 ⟨v2, rfl, hs, hb⟩; have HSb := Lib.hid hs; have HWb := Lib.hid (HWa.out.trans hb); clear hs hb k0; have k0 := (cell_of_row _ _ 0 _ _ _ HSb.out.box).trans HK.out; refine Stop.out ?_)
 unfold Stop
 go_wp2
 have HScd := Lib.hid HSb.out.drew
 have HWcd := Lib.hid (HWb.out.trans ((Below.refl _ _).drew))
 (try clear k0)
 refine wp_region_held_drew (S := fun V => V.heap[w.heap.size]? = some (.cells cs 28 (0, 0))) (by kernel_rfl) HScd.out.box ?_
 intro hHeld
 generalize World.drew _ = wdc at HScd HWcd hHeld ⊢
 (refine takeP (i := 0) ?_ rfl (.inl ⟨by rfl, ?_⟩) ?_; rotate_left; (focus ((intro wS hSw); (try dsimp only at hSw); have s0 := (cell_of_row wS w.heap.size 5 _ _ _ hSw).trans HH.out.1; have s1 := (cell_of_row wS w.heap.size 6 _ _ _ hSw).trans HH.out.2; go_simp; (try with_reducible rfl); done)); (try simp only [Act.put, pA, pB, pC]))
 (refine takeP (i := 1) ?_ rfl (.inl ⟨by rfl, ?_⟩) ?_; rotate_left; (focus ((intro wS hSw); (try dsimp only at hSw); have s0 := (cell_of_row wS w.heap.size 5 _ _ _ hSw).trans HH.out.1; have s1 := (cell_of_row wS w.heap.size 6 _ _ _ hSw).trans HH.out.2; go_simp; (try with_reducible rfl); done)); (try simp only [Act.put, pA, pB, pC]))
 (refine takeP (i := 2) ?_ rfl (.inl ⟨by rfl, ?_⟩) ?_; rotate_left; (focus ((intro wS hSw); (try dsimp only at hSw); have s0 := (cell_of_row wS w.heap.size 5 _ _ _ hSw).trans HH.out.1; have s1 := (cell_of_row wS w.heap.size 6 _ _ _ hSw).trans HH.out.2; go_simp; (try with_reducible rfl); done)); (try simp only [Act.put, pA, pB, pC]))
 (refine takeP (i := 4) ?_ rfl (.inl ⟨by rfl, ?_⟩) ?_; rotate_left; (focus ((intro wS hSw); (try dsimp only at hSw); have s0 := (cell_of_row wS w.heap.size 5 _ _ _ hSw).trans HH.out.1; have s1 := (cell_of_row wS w.heap.size 6 _ _ _ hSw).trans HH.out.2; go_simp; (try with_reducible rfl); done)); (try simp only [Act.put, pA, pB, pC]))
 (refine takeP (i := 5) ?_ rfl (.inl ⟨by rfl, ?_⟩) ?_; rotate_left; (focus ((intro wS hSw); (try dsimp only at hSw); have s0 := (cell_of_row wS w.heap.size 5 _ _ _ hSw).trans HH.out.1; have s1 := (cell_of_row wS w.heap.size 6 _ _ _ hSw).trans HH.out.2; go_simp; (try with_reducible rfl); done)); (try simp only [Act.put, pA, pB, pC]))
 refine aloneH (i := 3) rfl (by kernel_rfl) (fun K hK => ?_)
 rw [if_pos (by rfl)]
 go_simp; ((refine (HScd.out.num x.from_ (HR.out.1) (by omega)).mono ?_); (rintro e wc1 ⟨vc1, rfl, hs, hb⟩); have HSc1 := Lib.hid hs; have HWc1 := Lib.hid (HWcd.out.trans hb); clear hs hb; (try go_simp))
 refine hK.out _ _ (HSc1.out.box) ?_
 clear hK K hHeld; intro hHeld; (try simp only [Act.put, pA, pB, pC])
 refine aloneH (i := 6) rfl (by kernel_rfl) (fun K hK => ?_)
 rw [if_pos (by rfl)]
 go_simp; ((refine (HSc1.out.num x.until_ (HR.out.2) (by omega)).mono ?_); (rintro e wc2 ⟨vc2, rfl, hs, hb⟩); have HSc2 := Lib.hid hs; have HWc2 := Lib.hid (HWc1.out.trans hb); clear hs hb; (try go_simp))
 refine hK.out _ _ (HSc2.out.box) ?_
 clear hK K hHeld; intro hHeld; (try simp only [Act.put, pA, pB, pC])
 (refine takeP (i := 7) ?_ rfl (.inl ⟨by rfl, ?_⟩) ?_; rotate_left; (focus ((intro wS hSw); (try dsimp only at hSw); have s0 := (cell_of_row wS w.heap.size 5 _ _ _ hSw).trans HH.out.1; have s1 := (cell_of_row wS w.heap.size 6 _ _ _ hSw).trans HH.out.2; go_simp; (try with_reducible rfl); done)); (try simp only [Act.put, pA, pB, pC]))
 refine wpAnyH_done (by kernel_rfl) ?_ _
 clear hHeld
 go_wp2
 go_ret2
 exact ⟨vc2, rfl, by rw [← encTL_3 hkx]; exact HSc2.out.1, HWc2.out⟩
theorem encTL_4 {x : CmdV} (hk : x.kind = 4) : ((((([] ++ nB 4) ++ sB x.state) ++ sB x.text) ++ nB x.from_) ++ nB x.until_) = encT x := by
 unfold encT
 rw [bodyT_4 hk, hk]
 simp only [List.append_assoc, List.append_nil, List.nil_append]
set_option maxHeartbeats 4000000 in
theorem refEnc_4 (cs : Array Value) (x : CmdV) (w : World) (hkx : x.kind = 4) (hs : cs.size = 22) (HGd : Hid (∀ W, Below w.heap.size w W → Calls Tryz.prog 9 #[.agg cs] W fun e w1 => e = .returned (.bool true) ∧ Below W.heap.size W w1)) (hk : cs[0]? = some (.int .i64 4)) (h1 : cs[1]? = some (.string x.state)) (h2 : cs[2]? = some (.string x.text)) (h5 : cs[5]? = some (.int .i64 x.from_)) (h6 : cs[6]? = some (.int .i64 x.until_)) (b1 : x.state.size ≤ 65536) (b2 : x.text.size ≤ 65536) (b5 : NR x.from_) (b6 : NR x.until_) : Calls Tryz.prog 15 #[.agg cs] w fun e w1 => EncR w (encT x) e w1 := by
 have HX := Lib.hid (heap_alloc_new w (.cells cs 28))
 have HB0 := Lib.hid (below_alloc w (.cells cs 28))
 have HI := Lib.hid (cmd_info hs)
 have HK := Lib.hid hk
 have HH := Lib.hid (And.intro h1 (And.intro h2 (And.intro h5 h6)))
 have HR := Lib.hid (And.intro b1 (And.intro b2 (And.intro b5 b6)))
 clear hs hk h1 h2 h5 h6 b1 b2 b5 b6
 go_enter Tryz.func15, Tryz.ntmps15
 go_wp2_with ((with_reducible refine wpList_load_row (o := ⟨some 5, _, _, _, _, _⟩) ?a1 28 (.tmp 1) ?a2 w.heap.size ?a3 28 cs (0, 0) _ HX.out Tryz.underlying28 ?a4 HI.out ?_); (case a1 => rfl); (case a2 => rfl); (case a3 => rfl); (case a4 => rfl); refine Stop.out ?_)
 unfold Stop
 go_wp2_with (go_at_call 9; refine (HGd.out _ HB0.out).mono ?_; rintro e w1 ⟨rfl, hb⟩; have HWa := Lib.hid (below_then HB0.out hb); have hx1 := heap_on hb HX.out; have HSa : Hid (OY w1 w.heap.size (.slice none 0 0) [] [(w.heap.size, (.cells cs 28 (0, 0)))] 0) := Lib.hid ⟨OB.nil _ _, fun p hp => (by have e := List.mem_singleton.1 hp; subst e; exact ⟨hx1, by simp [Value.ownBlock]⟩), HWa.out.size, Nat.le_refl _⟩; clear hb hx1; have k0 := (cell_of_row _ _ 0 _ _ _ HSa.out.box).trans HK.out; refine Stop.out ?_)
 unfold Stop
 clear HX HB0 HI HGd
 go_wp2_with (go_at_call 41; refine (HSa.out.num 4 ⟨by omega, by omega⟩ (by omega)).mono ?_; rintro e w2 ⟨v2, rfl, hs, hb⟩; have HSb := Lib.hid hs; have HWb := Lib.hid (HWa.out.trans hb); clear hs hb k0; have k0 := (cell_of_row _ _ 0 _ _ _ HSb.out.box).trans HK.out; refine Stop.out ?_)
 unfold Stop
 go_wp2
 have HScd := Lib.hid HSb.out.drew
 have HWcd := Lib.hid (HWb.out.trans ((Below.refl _ _).drew))
 (try clear k0)
 refine wp_region_held_drew (S := fun V => V.heap[w.heap.size]? = some (.cells cs 28 (0, 0))) (by kernel_rfl) HScd.out.box ?_
 intro hHeld
 generalize World.drew _ = wdc at HScd HWcd hHeld ⊢
 (refine takeP (i := 0) ?_ rfl (.inl ⟨by rfl, ?_⟩) ?_; rotate_left; (focus ((intro wS hSw); (try dsimp only at hSw); have s0 := (cell_of_row wS w.heap.size 1 _ _ _ hSw).trans HH.out.1; have s1 := (cell_of_row wS w.heap.size 2 _ _ _ hSw).trans HH.out.2.1; have s2 := (cell_of_row wS w.heap.size 5 _ _ _ hSw).trans HH.out.2.2.1; have s3 := (cell_of_row wS w.heap.size 6 _ _ _ hSw).trans HH.out.2.2.2; go_simp; (try with_reducible rfl); done)); (try simp only [Act.put, pA, pB, pC]))
 (refine takeP (i := 1) ?_ rfl (.inl ⟨by rfl, ?_⟩) ?_; rotate_left; (focus ((intro wS hSw); (try dsimp only at hSw); have s0 := (cell_of_row wS w.heap.size 1 _ _ _ hSw).trans HH.out.1; have s1 := (cell_of_row wS w.heap.size 2 _ _ _ hSw).trans HH.out.2.1; have s2 := (cell_of_row wS w.heap.size 5 _ _ _ hSw).trans HH.out.2.2.1; have s3 := (cell_of_row wS w.heap.size 6 _ _ _ hSw).trans HH.out.2.2.2; go_simp; (try with_reducible rfl); done)); (try simp only [Act.put, pA, pB, pC]))
 (refine takeP (i := 2) ?_ rfl (.inl ⟨by rfl, ?_⟩) ?_; rotate_left; (focus ((intro wS hSw); (try dsimp only at hSw); have s0 := (cell_of_row wS w.heap.size 1 _ _ _ hSw).trans HH.out.1; have s1 := (cell_of_row wS w.heap.size 2 _ _ _ hSw).trans HH.out.2.1; have s2 := (cell_of_row wS w.heap.size 5 _ _ _ hSw).trans HH.out.2.2.1; have s3 := (cell_of_row wS w.heap.size 6 _ _ _ hSw).trans HH.out.2.2.2; go_simp; (try with_reducible rfl); done)); (try simp only [Act.put, pA, pB, pC]))
 (refine takeP (i := 4) ?_ rfl (.inl ⟨by rfl, ?_⟩) ?_; rotate_left; (focus ((intro wS hSw); (try dsimp only at hSw); have s0 := (cell_of_row wS w.heap.size 1 _ _ _ hSw).trans HH.out.1; have s1 := (cell_of_row wS w.heap.size 2 _ _ _ hSw).trans HH.out.2.1; have s2 := (cell_of_row wS w.heap.size 5 _ _ _ hSw).trans HH.out.2.2.1; have s3 := (cell_of_row wS w.heap.size 6 _ _ _ hSw).trans HH.out.2.2.2; go_simp; (try with_reducible rfl); done)); (try simp only [Act.put, pA, pB, pC]))
 (refine takeP (i := 5) ?_ rfl (.inl ⟨by rfl, ?_⟩) ?_; rotate_left; (focus ((intro wS hSw); (try dsimp only at hSw); have s0 := (cell_of_row wS w.heap.size 1 _ _ _ hSw).trans HH.out.1; have s1 := (cell_of_row wS w.heap.size 2 _ _ _ hSw).trans HH.out.2.1; have s2 := (cell_of_row wS w.heap.size 5 _ _ _ hSw).trans HH.out.2.2.1; have s3 := (cell_of_row wS w.heap.size 6 _ _ _ hSw).trans HH.out.2.2.2; go_simp; (try with_reducible rfl); done)); (try simp only [Act.put, pA, pB, pC]))
 (refine takeP (i := 7) ?_ rfl (.inl ⟨by rfl, ?_⟩) ?_; rotate_left; (focus ((intro wS hSw); (try dsimp only at hSw); have s0 := (cell_of_row wS w.heap.size 1 _ _ _ hSw).trans HH.out.1; have s1 := (cell_of_row wS w.heap.size 2 _ _ _ hSw).trans HH.out.2.1; have s2 := (cell_of_row wS w.heap.size 5 _ _ _ hSw).trans HH.out.2.2.1; have s3 := (cell_of_row wS w.heap.size 6 _ _ _ hSw).trans HH.out.2.2.2; go_simp; (try with_reducible rfl); done)); (try simp only [Act.put, pA, pB, pC]))
 (refine takeP (i := 8) ?_ rfl (.inl ⟨by rfl, ?_⟩) ?_; rotate_left; (focus ((intro wS hSw); (try dsimp only at hSw); have s0 := (cell_of_row wS w.heap.size 1 _ _ _ hSw).trans HH.out.1; have s1 := (cell_of_row wS w.heap.size 2 _ _ _ hSw).trans HH.out.2.1; have s2 := (cell_of_row wS w.heap.size 5 _ _ _ hSw).trans HH.out.2.2.1; have s3 := (cell_of_row wS w.heap.size 6 _ _ _ hSw).trans HH.out.2.2.2; go_simp; (try with_reducible rfl); done)); (try simp only [Act.put, pA, pB, pC]))
 (refine takeP (i := 10) ?_ rfl (.inl ⟨by rfl, ?_⟩) ?_; rotate_left; (focus ((intro wS hSw); (try dsimp only at hSw); have s0 := (cell_of_row wS w.heap.size 1 _ _ _ hSw).trans HH.out.1; have s1 := (cell_of_row wS w.heap.size 2 _ _ _ hSw).trans HH.out.2.1; have s2 := (cell_of_row wS w.heap.size 5 _ _ _ hSw).trans HH.out.2.2.1; have s3 := (cell_of_row wS w.heap.size 6 _ _ _ hSw).trans HH.out.2.2.2; go_simp; (try with_reducible rfl); done)); (try simp only [Act.put, pA, pB, pC]))
 (refine takeP (i := 11) ?_ rfl (.inl ⟨by rfl, ?_⟩) ?_; rotate_left; (focus ((intro wS hSw); (try dsimp only at hSw); have s0 := (cell_of_row wS w.heap.size 1 _ _ _ hSw).trans HH.out.1; have s1 := (cell_of_row wS w.heap.size 2 _ _ _ hSw).trans HH.out.2.1; have s2 := (cell_of_row wS w.heap.size 5 _ _ _ hSw).trans HH.out.2.2.1; have s3 := (cell_of_row wS w.heap.size 6 _ _ _ hSw).trans HH.out.2.2.2; go_simp; (try with_reducible rfl); done)); (try simp only [Act.put, pA, pB, pC]))
 refine aloneH (i := 3) rfl (by kernel_rfl) (fun K hK => ?_)
 rw [if_pos (by rfl)]
 go_simp; ((refine (HScd.out.text x.state (HR.out.1) (by omega)).mono ?_); (rintro e wc1 ⟨vc1, rfl, hs, hb⟩); have HSc1 := Lib.hid hs; have HWc1 := Lib.hid (HWcd.out.trans hb); clear hs hb; (try go_simp))
 refine hK.out _ _ (HSc1.out.box) ?_
 clear hK K hHeld; intro hHeld; (try simp only [Act.put, pA, pB, pC])
 refine aloneH (i := 6) rfl (by kernel_rfl) (fun K hK => ?_)
 rw [if_pos (by rfl)]
 go_simp; ((refine (HSc1.out.text x.text (HR.out.2.1) (by omega)).mono ?_); (rintro e wc2 ⟨vc2, rfl, hs, hb⟩); have HSc2 := Lib.hid hs; have HWc2 := Lib.hid (HWc1.out.trans hb); clear hs hb; (try go_simp))
 refine hK.out _ _ (HSc2.out.box) ?_
 clear hK K hHeld; intro hHeld; (try simp only [Act.put, pA, pB, pC])
 refine aloneH (i := 9) rfl (by kernel_rfl) (fun K hK => ?_)
 rw [if_pos (by rfl)]
 go_simp; ((refine (HSc2.out.num x.from_ (HR.out.2.2.1) (by omega)).mono ?_); (rintro e wc3 ⟨vc3, rfl, hs, hb⟩); have HSc3 := Lib.hid hs; have HWc3 := Lib.hid (HWc2.out.trans hb); clear hs hb; (try go_simp))
 refine hK.out _ _ (HSc3.out.box) ?_
 clear hK K hHeld; intro hHeld; (try simp only [Act.put, pA, pB, pC])
 refine aloneH (i := 12) rfl (by kernel_rfl) (fun K hK => ?_)
 rw [if_pos (by rfl)]
 go_simp; ((refine (HSc3.out.num x.until_ (HR.out.2.2.2) (by omega)).mono ?_); (rintro e wc4 ⟨vc4, rfl, hs, hb⟩); have HSc4 := Lib.hid hs; have HWc4 := Lib.hid (HWc3.out.trans hb); clear hs hb; (try go_simp))
 refine hK.out _ _ (HSc4.out.box) ?_
 clear hK K hHeld; intro hHeld; (try simp only [Act.put, pA, pB, pC])
 (refine takeP (i := 13) ?_ rfl (.inl ⟨by rfl, ?_⟩) ?_; rotate_left; (focus ((intro wS hSw); (try dsimp only at hSw); have s0 := (cell_of_row wS w.heap.size 1 _ _ _ hSw).trans HH.out.1; have s1 := (cell_of_row wS w.heap.size 2 _ _ _ hSw).trans HH.out.2.1; have s2 := (cell_of_row wS w.heap.size 5 _ _ _ hSw).trans HH.out.2.2.1; have s3 := (cell_of_row wS w.heap.size 6 _ _ _ hSw).trans HH.out.2.2.2; go_simp; (try with_reducible rfl); done)); (try simp only [Act.put, pA, pB, pC]))
 refine wpAnyH_done (by kernel_rfl) ?_ _
 clear hHeld
 go_wp2
 go_ret2
 exact ⟨vc4, rfl, by rw [← encTL_4 hkx]; exact HSc4.out.1, HWc4.out⟩
end Go.Proofs.YtplghpamckdklaaGreat
