/- What is seen of a row: the small calls, both sides. -/
import Derived.Test.YtaccjfoifkfpfaaDoorEnB
namespace Go.Proofs.YtaccjfoifkfpfaaDoor
open Go.RowKit
set_option maxRecDepth 100000
set_option linter.unusedSimpArgs false
set_option linter.unusedVariables false

abbrev rowA (x : RowV) : Array Value := #[.int .i64 x.pk, .int .i64 x.py, .int .i64 x.pi, .int .i64 x.gk, .int .i64 x.gy, .int .i64 x.gi, .string x.doc, .bool x.sale, .int .i64 x.supply, .int .i64 x.treat, .int .i64 x.rate, .string x.state, .string x.party, .int .i64 x.base, .int .i64 x.tax, .int .i64 x.deduct, .bool x.mixed]
def lateB (x : RowV) : Bool := !(decide (x.pk = x.gk) && (decide (x.py = x.gy) && decide (x.pi = x.gi)))
def owedV (x : RowV) : Int := if (outP x.treat && (x.sale || dedP x.treat)) = true then x.tax else 0
def lightR (x : RowV) : Bool := decide (x.doc.size + x.state.size + x.party.size ≤ 300)
theorem code_side (q : Bool) (w : World) : Calls Tryd.prog 30 #[.bool q] w fun e w1 => e = .returned (.string (if q = true then ⟨#[83]⟩ else ⟨#[80]⟩)) ∧ w = w1 := by
  cases q
  all_goals
    go_enter Tryd.func30, Tryd.ntmps30
    go_wp2
    go_ret
    exact ⟨rfl, rfl⟩
def markV (q : Bool) : Int := if q = true then 1 else 0
theorem code_mark (q : Bool) (w : World) : Calls Tryd.prog 22 #[.bool q] w fun e w1 => e = .returned (.int .i64 (markV q)) ∧ w = w1 := by
  cases q
  all_goals
    go_enter Tryd.func22, Tryd.ntmps22
    go_wp2
    go_ret
    exact ⟨rfl, rfl⟩
theorem ref_one (q : Bool) (w : World) : Calls Tryd.prog 23 #[.bool q] w fun e w1 => e = .returned (.int .i64 (markV q)) ∧ w = w1 := by
  cases q
  all_goals
    go_enter Tryd.func23, Tryd.ntmps23
    go_wp2
    go_ret
    exact ⟨rfl, rfl⟩
theorem code_late (x : RowV) (w : World) : Calls Tryd.prog 12 #[.agg (rowA x)] w fun e w1 => e = .returned (.bool (lateB x)) ∧ Below w.heap.size w w1 := by
  go_enter Tryd.func12, Tryd.ntmps12
  go_wp2
  all_goals
    go_ret
    exact ⟨ret_bool (by simp_all [lateB]), below_alloc _ _⟩
theorem ref_late (x : RowV) (w : World) : Calls Tryd.prog 13 #[.agg (rowA x)] w fun e w1 => e = .returned (.bool (lateB x)) ∧ Below w.heap.size w w1 := by
  go_enter Tryd.func13, Tryd.ntmps13
  go_wp2
  all_goals
    go_ret
    exact ⟨ret_bool (by simp_all [lateB]), below_alloc _ _⟩
theorem code_owed (x : RowV) (w : World) : Calls Tryd.prog 14 #[.agg (rowA x)] w fun e w1 => e = .returned (.int .i64 (owedV x)) ∧ Below w.heap.size w w1 := by
  have HO := Lib.hid (code_output x.treat)
  have HD := Lib.hid (code_deducts x.treat)
  obtain ⟨v, hv⟩ : ∃ v, v = owedV x := ⟨_, rfl⟩
  rw [← hv]
  unfold owedV at hv
  generalize outP x.treat = o at HO hv
  generalize dedP x.treat = d at HD hv
  have HV := Lib.hid hv
  clear hv
  cases hs : x.sale
  all_goals
    rw [hs] at HV
    cases o
    all_goals
      cases d
      all_goals
        go_enter Tryd.func14, Tryd.ntmps14
        go_wp2_with (first
          | (go_at_call 24; refine (HO.out _).mono ?_; rintro e w1 ⟨rfl, rfl⟩)
          | (go_at_call 25; refine (HD.out _).mono ?_; rintro e w1 ⟨rfl, rfl⟩))
        go_ret
        exact ⟨ret_int (by rw [HV.out]; rfl), below_alloc _ _⟩
theorem ref_owed (x : RowV) (w : World) : Calls Tryd.prog 15 #[.agg (rowA x)] w fun e w1 => e = .returned (.int .i64 (owedV x)) ∧ Below w.heap.size w w1 := by
  have HO := Lib.hid (ref_output x.treat)
  have HD := Lib.hid (ref_deducts x.treat)
  obtain ⟨v, hv⟩ : ∃ v, v = owedV x := ⟨_, rfl⟩
  rw [← hv]
  unfold owedV at hv
  generalize outP x.treat = o at HO hv
  generalize dedP x.treat = d at HD hv
  have HV := Lib.hid hv
  clear hv
  cases hs : x.sale
  all_goals
    rw [hs] at HV
    cases o
    all_goals
      cases d
      all_goals
        go_enter Tryd.func15, Tryd.ntmps15
        go_wp2_with (first
          | (go_at_call 26; refine (HO.out _).mono ?_; rintro e w1 ⟨rfl, rfl⟩)
          | (go_at_call 27; refine (HD.out _).mono ?_; rintro e w1 ⟨rfl, rfl⟩))
        go_ret
        exact ⟨ret_int (by rw [HV.out]; rfl), below_alloc _ _⟩
end Go.Proofs.YtaccjfoifkfpfaaDoor
