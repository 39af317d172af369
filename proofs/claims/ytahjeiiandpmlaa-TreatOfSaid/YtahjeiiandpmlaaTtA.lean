/- A treatment's case: the program's calls. -/
import Derived.Test.YtahjeiiandpmlaaBase
import Derived.Lib.Hide
namespace Go.Proofs.Ytahjeiiandpmlaa
open Go.RowKit
set_option maxRecDepth 100000
set_option linter.unusedSimpArgs false
set_option linter.unusedVariables false

def privV (ov : Bool) : Int := if ov then 8 else 9
def sentV (su fr to_ : Int) (bu ov : Bool) : Int := if fr = 0 then (if to_ = 2 then 5 else if su = 7 then 3 else if to_ = 0 then 1 else if bu then 4 else privV ov) else 10
def rendV (su pa : Int) (bu ov : Bool) : Int := if pa = 2 then 7 else if pa = 0 then 1 else if bu then 6 else if su = 2 then 1 else privV ov
def soldV (su fr to_ pa pl : Int) (bu ov : Bool) : Int := if su = 1 ∨ su = 7 then sentV su fr to_ bu ov else if su = 2 ∨ su = 6 then rendV su pa bu ov else if pl = 0 then 1 else 10
def gotV (su fr to_ : Int) (bu : Bool) : Int := if to_ = 0 then (if fr = 2 then 14 else if su = 7 then 3 else if fr = 0 then 11 else if bu then 12 else 10) else 10
def restV (pa : Int) (bu : Bool) : Int := if pa = 0 then 11 else if bu then 13 else 10
def boughtV (su fr to_ pa pl : Int) (bu : Bool) : Int := if su = 1 ∨ su = 7 then gotV su fr to_ bu else if su = 3 ∨ su = 4 ∨ su = 5 then (if pl = 0 then restV pa bu else 10) else restV pa bu
def zoneB (z : Int) : Bool := decide (0 ≤ z) && decide (z ≤ 2)
def mayB (su fr to_ pa pl : Int) : Bool := decide (1 ≤ su) && decide (su ≤ 7) && zoneB fr && zoneB to_ && zoneB pa && zoneB pl
def ofT (sa : Bool) (su : Int) (ex : Bool) (fr to_ pa pl : Int) (bu ov : Bool) : Int := if mayB su fr to_ pa pl then (if ex then 2 else if sa then soldV su fr to_ pa pl bu ov else boughtV su fr to_ pa pl bu) else 0
def ofE (su fr to_ pa pl : Int) : Int := if mayB su fr to_ pa pl then 0 else 2
theorem below_more {w v : World} {o : Obj} (h : Below w.heap.size w v) : Below w.heap.size w (v.alloc o) := h.alloc h.size o
theorem cellsCase {W : World} {g : Nat} {v0 v1 v2 v3 v4 v5 v6 v7 v8 : Value} {t : TypeId} (h : W.heap[g]? = some (.cells #[v0, v1, v2, v3, v4, v5, v6, v7, v8] t (0, 0))) : W.cell? ⟨g, 0, none⟩ = some v0 ∧ W.cell? ⟨g, 1, none⟩ = some v1 ∧ W.cell? ⟨g, 2, none⟩ = some v2 ∧ W.cell? ⟨g, 3, none⟩ = some v3 ∧ W.cell? ⟨g, 4, none⟩ = some v4 ∧ W.cell? ⟨g, 5, none⟩ = some v5 ∧ W.cell? ⟨g, 6, none⟩ = some v6 ∧ W.cell? ⟨g, 7, none⟩ = some v7 ∧ W.cell? ⟨g, 8, none⟩ = some v8 :=
  ⟨cell_of_row W g 0 _ _ _ h, cell_of_row W g 1 _ _ _ h, cell_of_row W g 2 _ _ _ h, cell_of_row W g 3 _ _ _ h, cell_of_row W g 4 _ _ _ h, cell_of_row W g 5 _ _ _ h, cell_of_row W g 6 _ _ _ h, cell_of_row W g 7 _ _ _ h, cell_of_row W g 8 _ _ _ h⟩
set_option maxHeartbeats 1000000 in
theorem code_isZone (z : Int) (w : World) : Calls Try.prog 23 #[.int .i64 z] w fun e w1 => e = .returned (.bool (zoneB z)) ∧ w = w1 := by
  unfold zoneB
  by_cases h1 : 0 ≤ z <;> by_cases h2 : z ≤ 2
  all_goals
    go_enter Try.func23, Try.ntmps23
    go_wp2
    go_ret
    exact ⟨ret_bool (by simp [h1, h2]), rfl⟩
set_option maxHeartbeats 1000000 in
theorem code_private (sa : Bool) (su : Int) (ex : Bool) (fr to_ pa pl : Int) (bu ov : Bool) (w : World) : Calls Try.prog 30 #[.agg #[.bool sa, .int .i64 su, .bool ex, .int .i64 fr, .int .i64 to_, .int .i64 pa, .int .i64 pl, .bool bu, .bool ov]] w fun e w1 => e = .returned (.int .i64 (privV ov)) ∧ Below w.heap.size w w1 := by
  go_enter Try.func30, Try.ntmps30
  go_wp2
  all_goals
    go_ret
    exact ⟨ret_int (by simp_all [privV]), by repeat (first | exact below_alloc _ _ | exact below_same _ | assumption | refine below_more ?_)⟩
set_option maxHeartbeats 1000000 in
theorem code_sent (sa : Bool) (su : Int) (ex : Bool) (fr to_ pa pl : Int) (bu ov : Bool) (w : World) : Calls Try.prog 27 #[.agg #[.bool sa, .int .i64 su, .bool ex, .int .i64 fr, .int .i64 to_, .int .i64 pa, .int .i64 pl, .bool bu, .bool ov]] w fun e w1 => e = .returned (.int .i64 (sentV su fr to_ bu ov)) ∧ Below w.heap.size w w1 := by
  go_enter Try.func27, Try.ntmps27
  go_wp2_with ((go_at_call 30; refine (code_private _ _ _ _ _ _ _ _ _ _).mono ?_; rintro e w1 ⟨rfl, hb⟩; have HB := Lib.hid (below_then (below_alloc w _) hb); clear hb))
  all_goals
    go_ret
    exact ⟨ret_int (by simp_all [sentV]), by first | exact HB.out | (repeat (first | exact below_alloc _ _ | exact below_same _ | assumption | refine below_more ?_))⟩
set_option maxHeartbeats 1000000 in
theorem code_rendered (sa : Bool) (su : Int) (ex : Bool) (fr to_ pa pl : Int) (bu ov : Bool) (w : World) : Calls Try.prog 28 #[.agg #[.bool sa, .int .i64 su, .bool ex, .int .i64 fr, .int .i64 to_, .int .i64 pa, .int .i64 pl, .bool bu, .bool ov]] w fun e w1 => e = .returned (.int .i64 (rendV su pa bu ov)) ∧ Below w.heap.size w w1 := by
  go_enter Try.func28, Try.ntmps28
  go_wp2_with ((go_at_call 30; refine (code_private _ _ _ _ _ _ _ _ _ _).mono ?_; rintro e w1 ⟨rfl, hb⟩; have HB := Lib.hid (below_then (below_alloc w _) hb); clear hb))
  all_goals
    go_ret
    exact ⟨ret_int (by simp_all [rendV]), by first | exact HB.out | (repeat (first | exact below_alloc _ _ | exact below_same _ | assumption | refine below_more ?_))⟩
set_option maxHeartbeats 1000000 in
theorem code_sold (sa : Bool) (su : Int) (ex : Bool) (fr to_ pa pl : Int) (bu ov : Bool) (w : World) : Calls Try.prog 21 #[.agg #[.bool sa, .int .i64 su, .bool ex, .int .i64 fr, .int .i64 to_, .int .i64 pa, .int .i64 pl, .bool bu, .bool ov]] w fun e w1 => e = .returned (.int .i64 (soldV su fr to_ pa pl bu ov)) ∧ Below w.heap.size w w1 := by
  go_enter Try.func21, Try.ntmps21
  go_wp2_with (first | (go_at_call 27; refine (code_sent _ _ _ _ _ _ _ _ _ _).mono ?_; rintro e w1 ⟨rfl, hb⟩; have HB := Lib.hid (below_then (below_alloc w _) hb); clear hb) | (go_at_call 28; refine (code_rendered _ _ _ _ _ _ _ _ _ _).mono ?_; rintro e w1 ⟨rfl, hb⟩; have HB := Lib.hid (below_then (below_alloc w _) hb); clear hb))
  all_goals
    go_ret
    exact ⟨ret_int (by simp_all [soldV]), by first | exact HB.out | (repeat (first | exact below_alloc _ _ | exact below_same _ | assumption | refine below_more ?_))⟩
set_option maxHeartbeats 1000000 in
theorem code_got (sa : Bool) (su : Int) (ex : Bool) (fr to_ pa pl : Int) (bu ov : Bool) (w : World) : Calls Try.prog 29 #[.agg #[.bool sa, .int .i64 su, .bool ex, .int .i64 fr, .int .i64 to_, .int .i64 pa, .int .i64 pl, .bool bu, .bool ov]] w fun e w1 => e = .returned (.int .i64 (gotV su fr to_ bu)) ∧ Below w.heap.size w w1 := by
  go_enter Try.func29, Try.ntmps29
  go_wp2
  all_goals
    go_ret
    exact ⟨ret_int (by simp_all [gotV]), by first | exact HB.out | (repeat (first | exact below_alloc _ _ | exact below_same _ | assumption | refine below_more ?_))⟩
set_option maxHeartbeats 1000000 in
theorem code_bought (sa : Bool) (su : Int) (ex : Bool) (fr to_ pa pl : Int) (bu ov : Bool) (w : World) : Calls Try.prog 22 #[.agg #[.bool sa, .int .i64 su, .bool ex, .int .i64 fr, .int .i64 to_, .int .i64 pa, .int .i64 pl, .bool bu, .bool ov]] w fun e w1 => e = .returned (.int .i64 (boughtV su fr to_ pa pl bu)) ∧ Below w.heap.size w w1 := by
  go_enter Try.func22, Try.ntmps22
  go_wp2_with ((go_at_call 29; refine (code_got _ _ _ _ _ _ _ _ _ _).mono ?_; rintro e w1 ⟨rfl, hb⟩; have HB := Lib.hid (below_then (below_alloc w _) hb); clear hb))
  all_goals
    go_ret
    exact ⟨ret_int (by simp_all [boughtV, restV]), by first | exact HB.out | (repeat (first | exact below_alloc _ _ | exact below_same _ | assumption | refine below_more ?_))⟩
end Go.Proofs.Ytahjeiiandpmlaa
