/- Where a line is supplied: not more than is looked at; the chapter's example. -/
import Derived.Test.YtdpafndejobbjaaPlG
import Derived.Test.YtdpafndejobbjaaPlJ
import Derived.Test.YtdpafndejobbjaaDocC
import Derived.WalkMore
import Derived.Laws.Tables
namespace Go.Proofs.Ytdpafndejobbjaa
open Go.RowKit
set_option maxRecDepth 100000
set_option linter.unusedSimpArgs false
set_option linter.unusedVariables false

def cmdOf (d : DocV) : CmdV := ⟨0, ⟨#[]⟩, ⟨#[]⟩, 0, 0, 0, 0, 0, 0, 0, 0, 0, 0, d.id, d.sale, d.credit, d.refers, d.day, d.country, d.number, d.currency, d.linesA, d.lines, d.linesC⟩
theorem cmdOf_ok {w W : World} {d : DocV} (h : DocVOk w d) (hb : Below w.heap.size w W) : CmdVOk W (cmdOf d) := by
  obtain ⟨h1, h2, h3, h4, h5, hr, h6⟩ := h
  exact ⟨Nat.zero_le _, Nat.zero_le _, h1, h2, h3, h4, h5, hr.on hb, h6⟩
def light17 (home : ByteArray) (d : DocV) (fr to_ pl : ByteArray) : Bool := decide (home.size ≤ 100) && lightC (cmdOf d) && decide (fr.size + to_.size + pl.size ≤ 300)
theorem light17_yes {home : ByteArray} {d : DocV} {fr to_ pl : ByteArray} (h : light17 home d fr to_ pl = true) : home.size ≤ 1000 ∧ d.country.size ≤ 1000 ∧ fr.size ≤ 1000 ∧ to_.size ≤ 1000 ∧ pl.size ≤ 1000 := by
  unfold light17 lightC at h
  simp only [Bool.and_eq_true, decide_eq_true_eq] at h
  obtain ⟨⟨h1, ⟨⟨⟨_, h3⟩, _⟩, _⟩⟩, h2⟩ := h
  have h4 : d.country.size + d.number.size + d.currency.size ≤ 500 := h3
  omega
set_option maxHeartbeats 4000000 in
theorem code_light17 (home : ByteArray) (d : DocV) (su ca : Int) (fr to_ pl : ByteArray) (am : Int) (gr : Bool) (co : Int) (mi : Bool) (V : Bool) (w : World) (hd : DocVOk w d) (hh : home.size ≤ 140737488351232) (hf : fr.size ≤ 140737488351232) (ht : to_.size ≤ 140737488351232) (hp : pl.size ≤ 140737488351232) (hV : light17 home d fr to_ pl = V) : Calls Try.prog 12 #[.string home, .agg #[.string d.id, .bool d.sale, .bool d.credit, .string d.refers, .int .i64 d.day, .string d.country, .string d.number, .string d.currency, .slice d.linesA d.lines.length d.linesC], .agg #[.int .i64 su, .int .i64 ca, .string fr, .string to_, .string pl, .int .i64 am, .bool gr, .int .i64 co, .bool mi]] w fun e w1 => e = .returned (.bool V) ∧ Below w.heap.size w w1 := by
  have HL := Lib.hid (fun W hb => code_light (cmdOf d) W (cmdOf_ok hd hb) _ rfl)
  have HB0 := Lib.hid (show Below w.heap.size w ((w.alloc (.cells #[.string d.id, .bool d.sale, .bool d.credit, .string d.refers, .int .i64 d.day, .string d.country, .string d.number, .string d.currency, .slice d.linesA d.lines.length d.linesC] 26)).alloc (.cells #[.int .i64 su, .int .i64 ca, .string fr, .string to_, .string pl, .int .i64 am, .bool gr, .int .i64 co, .bool mi] 34)) from below_more (below_alloc _ _))
  have hx1 := heap_alloc_new (w.alloc (.cells #[.string d.id, .bool d.sale, .bool d.credit, .string d.refers, .int .i64 d.day, .string d.country, .string d.number, .string d.currency, .slice d.linesA d.lines.length d.linesC] 26)) (.cells #[.int .i64 su, .int .i64 ca, .string fr, .string to_, .string pl, .int .i64 am, .bool gr, .int .i64 co, .bool mi] 34)
  simp only [World.size_alloc] at hx1
  have HX1 := Lib.hid hx1
  have HV := Lib.hid hV
  clear hd hx1 hV
  have i1 : (home.size : Int) ≤ 140737488351232 := by omega
  have i2 : (fr.size : Int) ≤ 140737488351232 := by omega
  have i3 : (to_.size : Int) ≤ 140737488351232 := by omega
  have i4 : (pl.size : Int) ≤ 140737488351232 := by omega
  by_cases h1 : home.size ≤ 100
  · have j1 : (home.size : Int) ≤ 100 := by omega
    generalize hlc : lightC (cmdOf d) = lc at HL
    by_cases h2 : fr.size + to_.size + pl.size ≤ 300
    · have j2 : (fr.size : Int) + (to_.size : Int) + (pl.size : Int) ≤ 300 := by omega
      have HQ : Hid (V = lc) := Lib.hid (by rw [← HV.out]; unfold light17; rw [hlc, decide_eq_true h1, decide_eq_true h2]; simp)
      clear h1 h2 hlc hh hf ht hp
      cases lc
      all_goals
        go_enter Try.func12, Try.ntmps12
        go_wp2_with (go_at_call 6; (refine (HL.out _ HB0.out).mono ?_); rintro e w1 ⟨rfl, hb⟩; obtain ⟨l0, l1, l2, l3, l4, l5, l6, l7, l8⟩ := cellsLineV (heap_on hb HX1.out); have HB := Lib.hid (below_then HB0.out hb); clear hb)
        go_ret
        exact ⟨ret_bool (by rw [HQ.out]; first | done | rfl | exact decide_eq_false (by omega) | exact decide_eq_true (by omega)), HB.out⟩
    · have j2 : (300 : Int) < (fr.size : Int) + (to_.size : Int) + (pl.size : Int) := by omega
      have HQ : Hid (V = false) := Lib.hid (by rw [← HV.out]; unfold light17; rw [decide_eq_false h2, Bool.and_false])
      clear h1 h2 hlc hh hf ht hp
      cases lc
      all_goals
        go_enter Try.func12, Try.ntmps12
        go_wp2_with (go_at_call 6; (refine (HL.out _ HB0.out).mono ?_); rintro e w1 ⟨rfl, hb⟩; obtain ⟨l0, l1, l2, l3, l4, l5, l6, l7, l8⟩ := cellsLineV (heap_on hb HX1.out); have HB := Lib.hid (below_then HB0.out hb); clear hb)
        go_ret
        exact ⟨ret_bool (by rw [HQ.out]; first | done | rfl | exact decide_eq_false (by omega) | exact decide_eq_true (by omega)), HB.out⟩
  · have j1 : (100 : Int) < (home.size : Int) := by omega
    have HQ : Hid (V = false) := Lib.hid (by rw [← HV.out]; unfold light17; rw [decide_eq_false h1, Bool.false_and, Bool.false_and])
    clear h1 hh hf ht hp
    go_enter Try.func12, Try.ntmps12
    go_wp2
    go_ret
    exact ⟨ret_bool (by rw [HQ.out]; first | done | rfl | exact decide_eq_false (by omega) | exact decide_eq_true (by omega)), HB0.out⟩
end Go.Proofs.Ytdpafndejobbjaa
