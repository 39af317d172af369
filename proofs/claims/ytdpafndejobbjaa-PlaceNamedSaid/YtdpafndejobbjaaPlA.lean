/- Where a line is supplied: the small calls. -/
import Derived.Test.YtdpafndejobbjaaDocE
import Derived.Test.YtdpafndejobbjaaVatZone
import Derived.WalkMore
namespace Go.Proofs.Ytdpafndejobbjaa
open Go.RowKit
set_option maxRecDepth 100000
set_option linter.unusedSimpArgs false
set_option linter.unusedVariables false

theorem below_more {w v : World} {o : Obj} (h : Below w.heap.size w v) : Below w.heap.size w (v.alloc o) := h.alloc h.size o
theorem ret_str {a b : ByteArray} (h : a = b) : Ending.returned (.string a) = .returned (.string b) := by rw [h]
theorem toList_inj (a b : ByteArray) (h : a.toList = b.toList) : a = b := by
  have := str_beq a b
  rw [h] at this
  simpa using this
def movB (su : Int) : Bool := (su == 1) || (su == 7)
def locB (su : Int) : Bool := (su == 3) || (su == 4) || (su == 5)
def soldS (home country : ByteArray) (su : Int) (fr to_ : ByteArray) (fz tz pz : Int) (bu ov : Bool) : ByteArray :=
  if su = 1 then (if fz = 0 ∧ tz = 1 ∧ ov = true ∧ bu = false then to_ else fr) else if su = 7 then fr else if su = 6 ∧ ov = true ∧ pz = 1 then country else if bu = true ∨ pz = 2 then country else home
def boughtS (home country : ByteArray) (su : Int) (fr to_ : ByteArray) (fz pz : Int) (bu : Bool) : ByteArray :=
  if su = 1 then (if fz = 2 ∨ (bu = true ∧ fr ≠ to_) then to_ else fr) else if su = 7 then fr else if bu = true ∨ pz = 0 then home else country
set_option maxHeartbeats 1000000 in
theorem code_moved (su ca : Int) (fr to_ pl : ByteArray) (am : Int) (gr : Bool) (co : Int) (mi : Bool) (w : World) : Calls Try.prog 16 #[.agg #[.int .i64 su, .int .i64 ca, .string fr, .string to_, .string pl, .int .i64 am, .bool gr, .int .i64 co, .bool mi]] w fun e w1 => e = .returned (.bool (movB su)) ∧ w1 = w.alloc (.cells #[.int .i64 su, .int .i64 ca, .string fr, .string to_, .string pl, .int .i64 am, .bool gr, .int .i64 co, .bool mi] 34) := by
  go_enter Try.func16, Try.ntmps16
  go_wp2
  all_goals
    go_ret
    exact ⟨ret_bool (by first | rfl | (simp_all [movB]; done) | (simp_all [movB]; omega) | (unfold movB; rw [Bool.eq_iff_iff]; simp only [Bool.or_eq_true, beq_iff_eq, decide_eq_true_eq, Bool.false_eq_true, false_iff, true_iff]; omega)), by first | rfl | simp_all⟩
set_option maxHeartbeats 1000000 in
theorem code_local (su ca : Int) (fr to_ pl : ByteArray) (am : Int) (gr : Bool) (co : Int) (mi : Bool) (w : World) : Calls Try.prog 18 #[.agg #[.int .i64 su, .int .i64 ca, .string fr, .string to_, .string pl, .int .i64 am, .bool gr, .int .i64 co, .bool mi]] w fun e w1 => e = .returned (.bool (locB su)) ∧ w1 = w.alloc (.cells #[.int .i64 su, .int .i64 ca, .string fr, .string to_, .string pl, .int .i64 am, .bool gr, .int .i64 co, .bool mi] 34) := by
  go_enter Try.func18, Try.ntmps18
  go_wp2
  all_goals
    go_ret
    exact ⟨ret_bool (by first | rfl | (simp_all [locB]; done) | (simp_all [locB]; omega) | (unfold locB; rw [Bool.eq_iff_iff]; simp only [Bool.or_eq_true, beq_iff_eq, decide_eq_true_eq, Bool.false_eq_true, false_iff, true_iff]; omega)), by first | rfl | simp_all⟩
set_option maxHeartbeats 1000000 in
theorem ref_moved (su ca : Int) (fr to_ pl : ByteArray) (am : Int) (gr : Bool) (co : Int) (mi : Bool) (w : World) : Calls Try.prog 17 #[.agg #[.int .i64 su, .int .i64 ca, .string fr, .string to_, .string pl, .int .i64 am, .bool gr, .int .i64 co, .bool mi]] w fun e w1 => e = .returned (.bool (movB su)) ∧ w1 = w.alloc (.cells #[.int .i64 su, .int .i64 ca, .string fr, .string to_, .string pl, .int .i64 am, .bool gr, .int .i64 co, .bool mi] 34) := by
  go_enter Try.func17, Try.ntmps17
  go_wp2
  all_goals
    go_ret
    exact ⟨ret_bool (by first | rfl | (simp_all [movB]; done) | (simp_all [movB]; omega) | (unfold movB; rw [Bool.eq_iff_iff]; simp only [Bool.or_eq_true, beq_iff_eq, decide_eq_true_eq, Bool.false_eq_true, false_iff, true_iff]; omega)), by first | rfl | simp_all⟩
set_option maxHeartbeats 1000000 in
theorem ref_local (su ca : Int) (fr to_ pl : ByteArray) (am : Int) (gr : Bool) (co : Int) (mi : Bool) (w : World) : Calls Try.prog 19 #[.agg #[.int .i64 su, .int .i64 ca, .string fr, .string to_, .string pl, .int .i64 am, .bool gr, .int .i64 co, .bool mi]] w fun e w1 => e = .returned (.bool (locB su)) ∧ w1 = w.alloc (.cells #[.int .i64 su, .int .i64 ca, .string fr, .string to_, .string pl, .int .i64 am, .bool gr, .int .i64 co, .bool mi] 34) := by
  go_enter Try.func19, Try.ntmps19
  go_wp2
  all_goals
    go_ret
    exact ⟨ret_bool (by first | rfl | (simp_all [locB]; done) | (simp_all [locB]; omega) | (unfold locB; rw [Bool.eq_iff_iff]; simp only [Bool.or_eq_true, beq_iff_eq, decide_eq_true_eq, Bool.false_eq_true, false_iff, true_iff]; omega)), by first | rfl | simp_all⟩
set_option maxHeartbeats 4000000 in
theorem code_sold (home country : ByteArray) (su ca : Int) (fr to_ pl : ByteArray) (am : Int) (gr : Bool) (co : Int) (mi : Bool) (sa : Bool) (cs : Int) (ex : Bool) (fz tz pz lz : Int) (bu ov : Bool) (w : World) : Calls Try.prog 31 #[.string home, .string country, .agg #[.int .i64 su, .int .i64 ca, .string fr, .string to_, .string pl, .int .i64 am, .bool gr, .int .i64 co, .bool mi], .agg #[.bool sa, .int .i64 cs, .bool ex, .int .i64 fz, .int .i64 tz, .int .i64 pz, .int .i64 lz, .bool bu, .bool ov]] w fun e w1 => e = .returned (.string (soldS home country su fr to_ fz tz pz bu ov)) ∧ Below w.heap.size w w1 := by
  go_enter Try.func31, Try.ntmps31
  go_wp2
  all_goals
    go_ret
    exact ⟨ret_str (by simp_all [soldS]), by repeat (first | exact below_alloc _ _ | exact below_same _ | assumption | refine below_more ?_)⟩
set_option maxHeartbeats 4000000 in
theorem code_bought (home country : ByteArray) (su ca : Int) (fr to_ pl : ByteArray) (am : Int) (gr : Bool) (co : Int) (mi : Bool) (sa : Bool) (cs : Int) (ex : Bool) (fz tz pz lz : Int) (bu ov : Bool) (w : World) : Calls Try.prog 32 #[.string home, .string country, .agg #[.int .i64 su, .int .i64 ca, .string fr, .string to_, .string pl, .int .i64 am, .bool gr, .int .i64 co, .bool mi], .agg #[.bool sa, .int .i64 cs, .bool ex, .int .i64 fz, .int .i64 tz, .int .i64 pz, .int .i64 lz, .bool bu, .bool ov]] w fun e w1 => e = .returned (.string (boughtS home country su fr to_ fz pz bu)) ∧ Below w.heap.size w w1 := by
  go_enter Try.func32, Try.ntmps32
  go_wp2
  all_goals
    go_ret
    exact ⟨ret_str (by have hx := toList_inj fr to_; first | (simp_all [boughtS]; done) | (simp_all [boughtS]; rw [hx (by assumption)])), by repeat (first | exact below_alloc _ _ | exact below_same _ | assumption | refine below_more ?_)⟩
end Go.Proofs.Ytdpafndejobbjaa
