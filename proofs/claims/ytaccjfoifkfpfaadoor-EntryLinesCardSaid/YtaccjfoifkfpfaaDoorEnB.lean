/- What is told of a treatment: both sides. -/
import Derived.Test.YtaccjfoifkfpfaaDoorEnA
import Derived.Test.YtaccjfoifkfpfaaDoorDrawB
namespace Go.Proofs.YtaccjfoifkfpfaaDoor
open Go.RowKit
set_option maxRecDepth 100000
set_option linter.unusedSimpArgs false
set_option linter.unusedVariables false

def nameV (t : Int) : ByteArray := if t = 1 then ⟨#[104, 111, 109, 101]⟩ else if t = 2 then ⟨#[102, 114, 101, 101, 100]⟩ else if t = 3 then ⟨#[109, 97, 114, 103, 105, 110]⟩ else if t = 4 then ⟨#[105, 110, 116, 114, 97]⟩ else if t = 5 then ⟨#[101, 120, 112, 111, 114, 116]⟩ else if t = 6 then ⟨#[114, 101, 118, 101, 114, 115, 101]⟩ else if t = 7 then ⟨#[111, 117, 116, 115, 105, 100, 101]⟩ else if t = 8 then ⟨#[100, 105, 115, 116, 97, 110, 99, 101]⟩ else if t = 9 then ⟨#[98, 101, 108, 111, 119]⟩ else if t = 10 then ⟨#[97, 98, 114, 111, 97, 100]⟩ else if t = 11 then ⟨#[105, 110, 112, 117, 116]⟩ else if t = 12 then ⟨#[97, 99, 113, 117, 105, 115, 105, 116, 105, 111, 110]⟩ else if t = 13 then ⟨#[114, 101, 99, 101, 105, 118, 101, 100]⟩ else if t = 14 then ⟨#[105, 109, 112, 111, 114, 116]⟩ else if t = 15 then ⟨#[97, 100, 106, 117, 115, 116, 101, 100]⟩ else ⟨#[]⟩
theorem ret_str {a b : ByteArray} (h : a = b) : Ending.returned (.string a) = .returned (.string b) := by rw [h]
def namesA : Array Value := #[.string ⟨#[]⟩, .string ⟨#[104, 111, 109, 101]⟩, .string ⟨#[102, 114, 101, 101, 100]⟩, .string ⟨#[109, 97, 114, 103, 105, 110]⟩, .string ⟨#[105, 110, 116, 114, 97]⟩, .string ⟨#[101, 120, 112, 111, 114, 116]⟩, .string ⟨#[114, 101, 118, 101, 114, 115, 101]⟩, .string ⟨#[111, 117, 116, 115, 105, 100, 101]⟩, .string ⟨#[100, 105, 115, 116, 97, 110, 99, 101]⟩, .string ⟨#[98, 101, 108, 111, 119]⟩, .string ⟨#[97, 98, 114, 111, 97, 100]⟩, .string ⟨#[105, 110, 112, 117, 116]⟩, .string ⟨#[97, 99, 113, 117, 105, 115, 105, 116, 105, 111, 110]⟩, .string ⟨#[114, 101, 99, 101, 105, 118, 101, 100]⟩, .string ⟨#[105, 109, 112, 111, 114, 116]⟩, .string ⟨#[97, 100, 106, 117, 115, 116, 101, 100]⟩]
def outP (t : Int) : Bool := decide (t = 1 ∨ t = 3 ∨ t = 9 ∨ t = 12 ∨ t = 13 ∨ t = 14)
def dedP (t : Int) : Bool := decide (t = 11 ∨ t = 12 ∨ t = 13 ∨ t = 14)
set_option maxHeartbeats 1000000 in
theorem code_output (t : Int) (w : World) : Calls Tryd.prog 24 #[.int .i64 t] w fun e w1 => e = .returned (.bool (outP t)) ∧ w = w1 := by
  go_enter Tryd.func24, Tryd.ntmps24
  go_wp2
  all_goals
    go_ret
    exact ⟨ret_bool (by first | (simp_all [outP]; done) | (rw [Bool.eq_iff_iff]; unfold outP; simp only [decide_eq_true_eq, beq_iff_eq, beq_eq_false_iff_ne, decide_eq_false_iff_not, ne_eq, Bool.false_eq_true, false_iff, iff_false, true_iff, iff_true] at *; omega) | (unfold outP; rw [Bool.eq_iff_iff]; simp only [Bool.or_eq_true, beq_iff_eq, decide_eq_true_eq]; omega)), rfl⟩
set_option maxHeartbeats 1000000 in
theorem code_deducts (t : Int) (w : World) : Calls Tryd.prog 25 #[.int .i64 t] w fun e w1 => e = .returned (.bool (dedP t)) ∧ w = w1 := by
  go_enter Tryd.func25, Tryd.ntmps25
  go_wp2
  all_goals
    go_ret
    exact ⟨ret_bool (by first | (simp_all [dedP]; done) | (rw [Bool.eq_iff_iff]; unfold dedP; simp only [decide_eq_true_eq, beq_iff_eq, beq_eq_false_iff_ne, decide_eq_false_iff_not, ne_eq, Bool.false_eq_true, false_iff, iff_false, true_iff, iff_true] at *; omega) | (unfold dedP; rw [Bool.eq_iff_iff]; simp only [Bool.or_eq_true, beq_iff_eq, decide_eq_true_eq]; omega)), rfl⟩
set_option maxHeartbeats 1000000 in
theorem ref_output (t : Int) (w : World) : Calls Tryd.prog 26 #[.int .i64 t] w fun e w1 => e = .returned (.bool (outP t)) ∧ w = w1 := by
  go_enter Tryd.func26, Tryd.ntmps26
  go_wp2
  all_goals
    go_ret
    exact ⟨ret_bool (by first | (simp_all [outP]; done) | (rw [Bool.eq_iff_iff]; unfold outP; simp only [decide_eq_true_eq, beq_iff_eq, beq_eq_false_iff_ne, decide_eq_false_iff_not, ne_eq, Bool.false_eq_true, false_iff, iff_false, true_iff, iff_true] at *; omega) | (unfold outP; rw [Bool.eq_iff_iff]; simp only [Bool.or_eq_true, beq_iff_eq, decide_eq_true_eq]; omega)), rfl⟩
set_option maxHeartbeats 1000000 in
theorem ref_deducts (t : Int) (w : World) : Calls Tryd.prog 27 #[.int .i64 t] w fun e w1 => e = .returned (.bool (dedP t)) ∧ w = w1 := by
  go_enter Tryd.func27, Tryd.ntmps27
  go_wp2
  all_goals
    go_ret
    exact ⟨ret_bool (by first | (simp_all [dedP]; done) | (rw [Bool.eq_iff_iff]; unfold dedP; simp only [decide_eq_true_eq, beq_iff_eq, beq_eq_false_iff_ne, decide_eq_false_iff_not, ne_eq, Bool.false_eq_true, false_iff, iff_false, true_iff, iff_true] at *; omega) | (unfold dedP; rw [Bool.eq_iff_iff]; simp only [Bool.or_eq_true, beq_iff_eq, decide_eq_true_eq]; omega)), rfl⟩
set_option maxHeartbeats 1000000 in
theorem ref_name (t : Int) (w : World) : Calls Tryd.prog 33 #[.int .i64 t] w fun e w1 => e = .returned (.string (nameV t)) ∧ w = w1 := by
  go_enter Tryd.func33, Tryd.ntmps33
  go_wp2
  all_goals
    go_ret
    exact ⟨ret_str (by simp_all [nameV]), rfl⟩
set_option maxHeartbeats 1000000 in
theorem code_names  (w : World) : Calls Tryd.prog 35 #[] w fun e w1 => e = .returned (.agg namesA) ∧ Below w.heap.size w w1 := by
  unfold namesA
  go_enter Tryd.func35, Tryd.ntmps35
  go_wp2
  exact bodyPost_ret (v := .agg namesA) (by simp [results, namesA, Tryd.results35, go_sem]) rfl ⟨rfl, by repeat (first | exact below_alloc _ _ | exact below_same _ | assumption | refine below_more ?_)⟩
set_option maxHeartbeats 1000000 in
theorem code_name (t : Int) (w : World) : Calls Tryd.prog 28 #[.int .i64 t] w fun e w1 => e = .returned (.string (nameV t)) ∧ Below w.heap.size w w1 := by
  have HNM : Hid (∀ W : World, Calls Tryd.prog 35 #[] W fun e w1 => e = .returned (.agg namesA) ∧ Below W.heap.size W w1) := Lib.hid code_names
  by_cases h0 : t < 1
  · go_enter Tryd.func28, Tryd.ntmps28
    go_wp2
    go_ret
    exact ⟨ret_str (by unfold nameV; rw [if_neg (by omega), if_neg (by omega), if_neg (by omega), if_neg (by omega), if_neg (by omega), if_neg (by omega), if_neg (by omega), if_neg (by omega), if_neg (by omega), if_neg (by omega), if_neg (by omega), if_neg (by omega), if_neg (by omega), if_neg (by omega), if_neg (by omega)]), below_same _⟩
  · by_cases h16 : 15 < t
    · go_enter Tryd.func28, Tryd.ntmps28
      go_wp2
      go_ret
      exact ⟨ret_str (by unfold nameV; rw [if_neg (by omega), if_neg (by omega), if_neg (by omega), if_neg (by omega), if_neg (by omega), if_neg (by omega), if_neg (by omega), if_neg (by omega), if_neg (by omega), if_neg (by omega), if_neg (by omega), if_neg (by omega), if_neg (by omega), if_neg (by omega), if_neg (by omega)]), below_same _⟩
    · have hk : t = 1 ∨ t = 2 ∨ t = 3 ∨ t = 4 ∨ t = 5 ∨ t = 6 ∨ t = 7 ∨ t = 8 ∨ t = 9 ∨ t = 10 ∨ t = 11 ∨ t = 12 ∨ t = 13 ∨ t = 14 ∨ t = 15 := by omega
      clear h0 h16
      rcases hk with rfl | rfl | rfl | rfl | rfl | rfl | rfl | rfl | rfl | rfl | rfl | rfl | rfl | rfl | rfl
      · have HI : ∀ W : World, Sem.run Tryd.prog (Instr.index 46 (.agg #[.string ⟨#[]⟩, .string ⟨#[104, 111, 109, 101]⟩, .string ⟨#[102, 114, 101, 101, 100]⟩, .string ⟨#[109, 97, 114, 103, 105, 110]⟩, .string ⟨#[105, 110, 116, 114, 97]⟩, .string ⟨#[101, 120, 112, 111, 114, 116]⟩, .string ⟨#[114, 101, 118, 101, 114, 115, 101]⟩, .string ⟨#[111, 117, 116, 115, 105, 100, 101]⟩, .string ⟨#[100, 105, 115, 116, 97, 110, 99, 101]⟩, .string ⟨#[98, 101, 108, 111, 119]⟩, .string ⟨#[97, 98, 114, 111, 97, 100]⟩, .string ⟨#[105, 110, 112, 117, 116]⟩, .string ⟨#[97, 99, 113, 117, 105, 115, 105, 116, 105, 111, 110]⟩, .string ⟨#[114, 101, 99, 101, 105, 118, 101, 100]⟩, .string ⟨#[105, 109, 112, 111, 114, 116]⟩, .string ⟨#[97, 100, 106, 117, 115, 116, 101, 100]⟩]) (.int .i64 1)) W = .ok (.string ⟨#[104, 111, 109, 101]⟩) W := fun W => by kernel_rfl
        unfold namesA at HNM
        go_enter Tryd.func28, Tryd.ntmps28
        go_wp2_with (go_at_call 35; refine (HNM.out _).mono ?_; rintro e w1 ⟨rfl, hb⟩; have HB := Lib.hid hb; clear hb)
        go_ret
        exact ⟨ret_str (by rfl), HB.out⟩
      · have HI : ∀ W : World, Sem.run Tryd.prog (Instr.index 46 (.agg #[.string ⟨#[]⟩, .string ⟨#[104, 111, 109, 101]⟩, .string ⟨#[102, 114, 101, 101, 100]⟩, .string ⟨#[109, 97, 114, 103, 105, 110]⟩, .string ⟨#[105, 110, 116, 114, 97]⟩, .string ⟨#[101, 120, 112, 111, 114, 116]⟩, .string ⟨#[114, 101, 118, 101, 114, 115, 101]⟩, .string ⟨#[111, 117, 116, 115, 105, 100, 101]⟩, .string ⟨#[100, 105, 115, 116, 97, 110, 99, 101]⟩, .string ⟨#[98, 101, 108, 111, 119]⟩, .string ⟨#[97, 98, 114, 111, 97, 100]⟩, .string ⟨#[105, 110, 112, 117, 116]⟩, .string ⟨#[97, 99, 113, 117, 105, 115, 105, 116, 105, 111, 110]⟩, .string ⟨#[114, 101, 99, 101, 105, 118, 101, 100]⟩, .string ⟨#[105, 109, 112, 111, 114, 116]⟩, .string ⟨#[97, 100, 106, 117, 115, 116, 101, 100]⟩]) (.int .i64 2)) W = .ok (.string ⟨#[102, 114, 101, 101, 100]⟩) W := fun W => by kernel_rfl
        unfold namesA at HNM
        go_enter Tryd.func28, Tryd.ntmps28
        go_wp2_with (go_at_call 35; refine (HNM.out _).mono ?_; rintro e w1 ⟨rfl, hb⟩; have HB := Lib.hid hb; clear hb)
        go_ret
        exact ⟨ret_str (by rfl), HB.out⟩
      · have HI : ∀ W : World, Sem.run Tryd.prog (Instr.index 46 (.agg #[.string ⟨#[]⟩, .string ⟨#[104, 111, 109, 101]⟩, .string ⟨#[102, 114, 101, 101, 100]⟩, .string ⟨#[109, 97, 114, 103, 105, 110]⟩, .string ⟨#[105, 110, 116, 114, 97]⟩, .string ⟨#[101, 120, 112, 111, 114, 116]⟩, .string ⟨#[114, 101, 118, 101, 114, 115, 101]⟩, .string ⟨#[111, 117, 116, 115, 105, 100, 101]⟩, .string ⟨#[100, 105, 115, 116, 97, 110, 99, 101]⟩, .string ⟨#[98, 101, 108, 111, 119]⟩, .string ⟨#[97, 98, 114, 111, 97, 100]⟩, .string ⟨#[105, 110, 112, 117, 116]⟩, .string ⟨#[97, 99, 113, 117, 105, 115, 105, 116, 105, 111, 110]⟩, .string ⟨#[114, 101, 99, 101, 105, 118, 101, 100]⟩, .string ⟨#[105, 109, 112, 111, 114, 116]⟩, .string ⟨#[97, 100, 106, 117, 115, 116, 101, 100]⟩]) (.int .i64 3)) W = .ok (.string ⟨#[109, 97, 114, 103, 105, 110]⟩) W := fun W => by kernel_rfl
        unfold namesA at HNM
        go_enter Tryd.func28, Tryd.ntmps28
        go_wp2_with (go_at_call 35; refine (HNM.out _).mono ?_; rintro e w1 ⟨rfl, hb⟩; have HB := Lib.hid hb; clear hb)
        go_ret
        exact ⟨ret_str (by rfl), HB.out⟩
      · have HI : ∀ W : World, Sem.run Tryd.prog (Instr.index 46 (.agg #[.string ⟨#[]⟩, .string ⟨#[104, 111, 109, 101]⟩, .string ⟨#[102, 114, 101, 101, 100]⟩, .string ⟨#[109, 97, 114, 103, 105, 110]⟩, .string ⟨#[105, 110, 116, 114, 97]⟩, .string ⟨#[101, 120, 112, 111, 114, 116]⟩, .string ⟨#[114, 101, 118, 101, 114, 115, 101]⟩, .string ⟨#[111, 117, 116, 115, 105, 100, 101]⟩, .string ⟨#[100, 105, 115, 116, 97, 110, 99, 101]⟩, .string ⟨#[98, 101, 108, 111, 119]⟩, .string ⟨#[97, 98, 114, 111, 97, 100]⟩, .string ⟨#[105, 110, 112, 117, 116]⟩, .string ⟨#[97, 99, 113, 117, 105, 115, 105, 116, 105, 111, 110]⟩, .string ⟨#[114, 101, 99, 101, 105, 118, 101, 100]⟩, .string ⟨#[105, 109, 112, 111, 114, 116]⟩, .string ⟨#[97, 100, 106, 117, 115, 116, 101, 100]⟩]) (.int .i64 4)) W = .ok (.string ⟨#[105, 110, 116, 114, 97]⟩) W := fun W => by kernel_rfl
        unfold namesA at HNM
        go_enter Tryd.func28, Tryd.ntmps28
        go_wp2_with (go_at_call 35; refine (HNM.out _).mono ?_; rintro e w1 ⟨rfl, hb⟩; have HB := Lib.hid hb; clear hb)
        go_ret
        exact ⟨ret_str (by rfl), HB.out⟩
      · have HI : ∀ W : World, Sem.run Tryd.prog (Instr.index 46 (.agg #[.string ⟨#[]⟩, .string ⟨#[104, 111, 109, 101]⟩, .string ⟨#[102, 114, 101, 101, 100]⟩, .string ⟨#[109, 97, 114, 103, 105, 110]⟩, .string ⟨#[105, 110, 116, 114, 97]⟩, .string ⟨#[101, 120, 112, 111, 114, 116]⟩, .string ⟨#[114, 101, 118, 101, 114, 115, 101]⟩, .string ⟨#[111, 117, 116, 115, 105, 100, 101]⟩, .string ⟨#[100, 105, 115, 116, 97, 110, 99, 101]⟩, .string ⟨#[98, 101, 108, 111, 119]⟩, .string ⟨#[97, 98, 114, 111, 97, 100]⟩, .string ⟨#[105, 110, 112, 117, 116]⟩, .string ⟨#[97, 99, 113, 117, 105, 115, 105, 116, 105, 111, 110]⟩, .string ⟨#[114, 101, 99, 101, 105, 118, 101, 100]⟩, .string ⟨#[105, 109, 112, 111, 114, 116]⟩, .string ⟨#[97, 100, 106, 117, 115, 116, 101, 100]⟩]) (.int .i64 5)) W = .ok (.string ⟨#[101, 120, 112, 111, 114, 116]⟩) W := fun W => by kernel_rfl
        unfold namesA at HNM
        go_enter Tryd.func28, Tryd.ntmps28
        go_wp2_with (go_at_call 35; refine (HNM.out _).mono ?_; rintro e w1 ⟨rfl, hb⟩; have HB := Lib.hid hb; clear hb)
        go_ret
        exact ⟨ret_str (by rfl), HB.out⟩
      · have HI : ∀ W : World, Sem.run Tryd.prog (Instr.index 46 (.agg #[.string ⟨#[]⟩, .string ⟨#[104, 111, 109, 101]⟩, .string ⟨#[102, 114, 101, 101, 100]⟩, .string ⟨#[109, 97, 114, 103, 105, 110]⟩, .string ⟨#[105, 110, 116, 114, 97]⟩, .string ⟨#[101, 120, 112, 111, 114, 116]⟩, .string ⟨#[114, 101, 118, 101, 114, 115, 101]⟩, .string ⟨#[111, 117, 116, 115, 105, 100, 101]⟩, .string ⟨#[100, 105, 115, 116, 97, 110, 99, 101]⟩, .string ⟨#[98, 101, 108, 111, 119]⟩, .string ⟨#[97, 98, 114, 111, 97, 100]⟩, .string ⟨#[105, 110, 112, 117, 116]⟩, .string ⟨#[97, 99, 113, 117, 105, 115, 105, 116, 105, 111, 110]⟩, .string ⟨#[114, 101, 99, 101, 105, 118, 101, 100]⟩, .string ⟨#[105, 109, 112, 111, 114, 116]⟩, .string ⟨#[97, 100, 106, 117, 115, 116, 101, 100]⟩]) (.int .i64 6)) W = .ok (.string ⟨#[114, 101, 118, 101, 114, 115, 101]⟩) W := fun W => by kernel_rfl
        unfold namesA at HNM
        go_enter Tryd.func28, Tryd.ntmps28
        go_wp2_with (go_at_call 35; refine (HNM.out _).mono ?_; rintro e w1 ⟨rfl, hb⟩; have HB := Lib.hid hb; clear hb)
        go_ret
        exact ⟨ret_str (by rfl), HB.out⟩
      · have HI : ∀ W : World, Sem.run Tryd.prog (Instr.index 46 (.agg #[.string ⟨#[]⟩, .string ⟨#[104, 111, 109, 101]⟩, .string ⟨#[102, 114, 101, 101, 100]⟩, .string ⟨#[109, 97, 114, 103, 105, 110]⟩, .string ⟨#[105, 110, 116, 114, 97]⟩, .string ⟨#[101, 120, 112, 111, 114, 116]⟩, .string ⟨#[114, 101, 118, 101, 114, 115, 101]⟩, .string ⟨#[111, 117, 116, 115, 105, 100, 101]⟩, .string ⟨#[100, 105, 115, 116, 97, 110, 99, 101]⟩, .string ⟨#[98, 101, 108, 111, 119]⟩, .string ⟨#[97, 98, 114, 111, 97, 100]⟩, .string ⟨#[105, 110, 112, 117, 116]⟩, .string ⟨#[97, 99, 113, 117, 105, 115, 105, 116, 105, 111, 110]⟩, .string ⟨#[114, 101, 99, 101, 105, 118, 101, 100]⟩, .string ⟨#[105, 109, 112, 111, 114, 116]⟩, .string ⟨#[97, 100, 106, 117, 115, 116, 101, 100]⟩]) (.int .i64 7)) W = .ok (.string ⟨#[111, 117, 116, 115, 105, 100, 101]⟩) W := fun W => by kernel_rfl
        unfold namesA at HNM
        go_enter Tryd.func28, Tryd.ntmps28
        go_wp2_with (go_at_call 35; refine (HNM.out _).mono ?_; rintro e w1 ⟨rfl, hb⟩; have HB := Lib.hid hb; clear hb)
        go_ret
        exact ⟨ret_str (by rfl), HB.out⟩
      · have HI : ∀ W : World, Sem.run Tryd.prog (Instr.index 46 (.agg #[.string ⟨#[]⟩, .string ⟨#[104, 111, 109, 101]⟩, .string ⟨#[102, 114, 101, 101, 100]⟩, .string ⟨#[109, 97, 114, 103, 105, 110]⟩, .string ⟨#[105, 110, 116, 114, 97]⟩, .string ⟨#[101, 120, 112, 111, 114, 116]⟩, .string ⟨#[114, 101, 118, 101, 114, 115, 101]⟩, .string ⟨#[111, 117, 116, 115, 105, 100, 101]⟩, .string ⟨#[100, 105, 115, 116, 97, 110, 99, 101]⟩, .string ⟨#[98, 101, 108, 111, 119]⟩, .string ⟨#[97, 98, 114, 111, 97, 100]⟩, .string ⟨#[105, 110, 112, 117, 116]⟩, .string ⟨#[97, 99, 113, 117, 105, 115, 105, 116, 105, 111, 110]⟩, .string ⟨#[114, 101, 99, 101, 105, 118, 101, 100]⟩, .string ⟨#[105, 109, 112, 111, 114, 116]⟩, .string ⟨#[97, 100, 106, 117, 115, 116, 101, 100]⟩]) (.int .i64 8)) W = .ok (.string ⟨#[100, 105, 115, 116, 97, 110, 99, 101]⟩) W := fun W => by kernel_rfl
        unfold namesA at HNM
        go_enter Tryd.func28, Tryd.ntmps28
        go_wp2_with (go_at_call 35; refine (HNM.out _).mono ?_; rintro e w1 ⟨rfl, hb⟩; have HB := Lib.hid hb; clear hb)
        go_ret
        exact ⟨ret_str (by rfl), HB.out⟩
      · have HI : ∀ W : World, Sem.run Tryd.prog (Instr.index 46 (.agg #[.string ⟨#[]⟩, .string ⟨#[104, 111, 109, 101]⟩, .string ⟨#[102, 114, 101, 101, 100]⟩, .string ⟨#[109, 97, 114, 103, 105, 110]⟩, .string ⟨#[105, 110, 116, 114, 97]⟩, .string ⟨#[101, 120, 112, 111, 114, 116]⟩, .string ⟨#[114, 101, 118, 101, 114, 115, 101]⟩, .string ⟨#[111, 117, 116, 115, 105, 100, 101]⟩, .string ⟨#[100, 105, 115, 116, 97, 110, 99, 101]⟩, .string ⟨#[98, 101, 108, 111, 119]⟩, .string ⟨#[97, 98, 114, 111, 97, 100]⟩, .string ⟨#[105, 110, 112, 117, 116]⟩, .string ⟨#[97, 99, 113, 117, 105, 115, 105, 116, 105, 111, 110]⟩, .string ⟨#[114, 101, 99, 101, 105, 118, 101, 100]⟩, .string ⟨#[105, 109, 112, 111, 114, 116]⟩, .string ⟨#[97, 100, 106, 117, 115, 116, 101, 100]⟩]) (.int .i64 9)) W = .ok (.string ⟨#[98, 101, 108, 111, 119]⟩) W := fun W => by kernel_rfl
        unfold namesA at HNM
        go_enter Tryd.func28, Tryd.ntmps28
        go_wp2_with (go_at_call 35; refine (HNM.out _).mono ?_; rintro e w1 ⟨rfl, hb⟩; have HB := Lib.hid hb; clear hb)
        go_ret
        exact ⟨ret_str (by rfl), HB.out⟩
      · have HI : ∀ W : World, Sem.run Tryd.prog (Instr.index 46 (.agg #[.string ⟨#[]⟩, .string ⟨#[104, 111, 109, 101]⟩, .string ⟨#[102, 114, 101, 101, 100]⟩, .string ⟨#[109, 97, 114, 103, 105, 110]⟩, .string ⟨#[105, 110, 116, 114, 97]⟩, .string ⟨#[101, 120, 112, 111, 114, 116]⟩, .string ⟨#[114, 101, 118, 101, 114, 115, 101]⟩, .string ⟨#[111, 117, 116, 115, 105, 100, 101]⟩, .string ⟨#[100, 105, 115, 116, 97, 110, 99, 101]⟩, .string ⟨#[98, 101, 108, 111, 119]⟩, .string ⟨#[97, 98, 114, 111, 97, 100]⟩, .string ⟨#[105, 110, 112, 117, 116]⟩, .string ⟨#[97, 99, 113, 117, 105, 115, 105, 116, 105, 111, 110]⟩, .string ⟨#[114, 101, 99, 101, 105, 118, 101, 100]⟩, .string ⟨#[105, 109, 112, 111, 114, 116]⟩, .string ⟨#[97, 100, 106, 117, 115, 116, 101, 100]⟩]) (.int .i64 10)) W = .ok (.string ⟨#[97, 98, 114, 111, 97, 100]⟩) W := fun W => by kernel_rfl
        unfold namesA at HNM
        go_enter Tryd.func28, Tryd.ntmps28
        go_wp2_with (go_at_call 35; refine (HNM.out _).mono ?_; rintro e w1 ⟨rfl, hb⟩; have HB := Lib.hid hb; clear hb)
        go_ret
        exact ⟨ret_str (by rfl), HB.out⟩
      · have HI : ∀ W : World, Sem.run Tryd.prog (Instr.index 46 (.agg #[.string ⟨#[]⟩, .string ⟨#[104, 111, 109, 101]⟩, .string ⟨#[102, 114, 101, 101, 100]⟩, .string ⟨#[109, 97, 114, 103, 105, 110]⟩, .string ⟨#[105, 110, 116, 114, 97]⟩, .string ⟨#[101, 120, 112, 111, 114, 116]⟩, .string ⟨#[114, 101, 118, 101, 114, 115, 101]⟩, .string ⟨#[111, 117, 116, 115, 105, 100, 101]⟩, .string ⟨#[100, 105, 115, 116, 97, 110, 99, 101]⟩, .string ⟨#[98, 101, 108, 111, 119]⟩, .string ⟨#[97, 98, 114, 111, 97, 100]⟩, .string ⟨#[105, 110, 112, 117, 116]⟩, .string ⟨#[97, 99, 113, 117, 105, 115, 105, 116, 105, 111, 110]⟩, .string ⟨#[114, 101, 99, 101, 105, 118, 101, 100]⟩, .string ⟨#[105, 109, 112, 111, 114, 116]⟩, .string ⟨#[97, 100, 106, 117, 115, 116, 101, 100]⟩]) (.int .i64 11)) W = .ok (.string ⟨#[105, 110, 112, 117, 116]⟩) W := fun W => by kernel_rfl
        unfold namesA at HNM
        go_enter Tryd.func28, Tryd.ntmps28
        go_wp2_with (go_at_call 35; refine (HNM.out _).mono ?_; rintro e w1 ⟨rfl, hb⟩; have HB := Lib.hid hb; clear hb)
        go_ret
        exact ⟨ret_str (by rfl), HB.out⟩
      · have HI : ∀ W : World, Sem.run Tryd.prog (Instr.index 46 (.agg #[.string ⟨#[]⟩, .string ⟨#[104, 111, 109, 101]⟩, .string ⟨#[102, 114, 101, 101, 100]⟩, .string ⟨#[109, 97, 114, 103, 105, 110]⟩, .string ⟨#[105, 110, 116, 114, 97]⟩, .string ⟨#[101, 120, 112, 111, 114, 116]⟩, .string ⟨#[114, 101, 118, 101, 114, 115, 101]⟩, .string ⟨#[111, 117, 116, 115, 105, 100, 101]⟩, .string ⟨#[100, 105, 115, 116, 97, 110, 99, 101]⟩, .string ⟨#[98, 101, 108, 111, 119]⟩, .string ⟨#[97, 98, 114, 111, 97, 100]⟩, .string ⟨#[105, 110, 112, 117, 116]⟩, .string ⟨#[97, 99, 113, 117, 105, 115, 105, 116, 105, 111, 110]⟩, .string ⟨#[114, 101, 99, 101, 105, 118, 101, 100]⟩, .string ⟨#[105, 109, 112, 111, 114, 116]⟩, .string ⟨#[97, 100, 106, 117, 115, 116, 101, 100]⟩]) (.int .i64 12)) W = .ok (.string ⟨#[97, 99, 113, 117, 105, 115, 105, 116, 105, 111, 110]⟩) W := fun W => by kernel_rfl
        unfold namesA at HNM
        go_enter Tryd.func28, Tryd.ntmps28
        go_wp2_with (go_at_call 35; refine (HNM.out _).mono ?_; rintro e w1 ⟨rfl, hb⟩; have HB := Lib.hid hb; clear hb)
        go_ret
        exact ⟨ret_str (by rfl), HB.out⟩
      · have HI : ∀ W : World, Sem.run Tryd.prog (Instr.index 46 (.agg #[.string ⟨#[]⟩, .string ⟨#[104, 111, 109, 101]⟩, .string ⟨#[102, 114, 101, 101, 100]⟩, .string ⟨#[109, 97, 114, 103, 105, 110]⟩, .string ⟨#[105, 110, 116, 114, 97]⟩, .string ⟨#[101, 120, 112, 111, 114, 116]⟩, .string ⟨#[114, 101, 118, 101, 114, 115, 101]⟩, .string ⟨#[111, 117, 116, 115, 105, 100, 101]⟩, .string ⟨#[100, 105, 115, 116, 97, 110, 99, 101]⟩, .string ⟨#[98, 101, 108, 111, 119]⟩, .string ⟨#[97, 98, 114, 111, 97, 100]⟩, .string ⟨#[105, 110, 112, 117, 116]⟩, .string ⟨#[97, 99, 113, 117, 105, 115, 105, 116, 105, 111, 110]⟩, .string ⟨#[114, 101, 99, 101, 105, 118, 101, 100]⟩, .string ⟨#[105, 109, 112, 111, 114, 116]⟩, .string ⟨#[97, 100, 106, 117, 115, 116, 101, 100]⟩]) (.int .i64 13)) W = .ok (.string ⟨#[114, 101, 99, 101, 105, 118, 101, 100]⟩) W := fun W => by kernel_rfl
        unfold namesA at HNM
        go_enter Tryd.func28, Tryd.ntmps28
        go_wp2_with (go_at_call 35; refine (HNM.out _).mono ?_; rintro e w1 ⟨rfl, hb⟩; have HB := Lib.hid hb; clear hb)
        go_ret
        exact ⟨ret_str (by rfl), HB.out⟩
      · have HI : ∀ W : World, Sem.run Tryd.prog (Instr.index 46 (.agg #[.string ⟨#[]⟩, .string ⟨#[104, 111, 109, 101]⟩, .string ⟨#[102, 114, 101, 101, 100]⟩, .string ⟨#[109, 97, 114, 103, 105, 110]⟩, .string ⟨#[105, 110, 116, 114, 97]⟩, .string ⟨#[101, 120, 112, 111, 114, 116]⟩, .string ⟨#[114, 101, 118, 101, 114, 115, 101]⟩, .string ⟨#[111, 117, 116, 115, 105, 100, 101]⟩, .string ⟨#[100, 105, 115, 116, 97, 110, 99, 101]⟩, .string ⟨#[98, 101, 108, 111, 119]⟩, .string ⟨#[97, 98, 114, 111, 97, 100]⟩, .string ⟨#[105, 110, 112, 117, 116]⟩, .string ⟨#[97, 99, 113, 117, 105, 115, 105, 116, 105, 111, 110]⟩, .string ⟨#[114, 101, 99, 101, 105, 118, 101, 100]⟩, .string ⟨#[105, 109, 112, 111, 114, 116]⟩, .string ⟨#[97, 100, 106, 117, 115, 116, 101, 100]⟩]) (.int .i64 14)) W = .ok (.string ⟨#[105, 109, 112, 111, 114, 116]⟩) W := fun W => by kernel_rfl
        unfold namesA at HNM
        go_enter Tryd.func28, Tryd.ntmps28
        go_wp2_with (go_at_call 35; refine (HNM.out _).mono ?_; rintro e w1 ⟨rfl, hb⟩; have HB := Lib.hid hb; clear hb)
        go_ret
        exact ⟨ret_str (by rfl), HB.out⟩
      · have HI : ∀ W : World, Sem.run Tryd.prog (Instr.index 46 (.agg #[.string ⟨#[]⟩, .string ⟨#[104, 111, 109, 101]⟩, .string ⟨#[102, 114, 101, 101, 100]⟩, .string ⟨#[109, 97, 114, 103, 105, 110]⟩, .string ⟨#[105, 110, 116, 114, 97]⟩, .string ⟨#[101, 120, 112, 111, 114, 116]⟩, .string ⟨#[114, 101, 118, 101, 114, 115, 101]⟩, .string ⟨#[111, 117, 116, 115, 105, 100, 101]⟩, .string ⟨#[100, 105, 115, 116, 97, 110, 99, 101]⟩, .string ⟨#[98, 101, 108, 111, 119]⟩, .string ⟨#[97, 98, 114, 111, 97, 100]⟩, .string ⟨#[105, 110, 112, 117, 116]⟩, .string ⟨#[97, 99, 113, 117, 105, 115, 105, 116, 105, 111, 110]⟩, .string ⟨#[114, 101, 99, 101, 105, 118, 101, 100]⟩, .string ⟨#[105, 109, 112, 111, 114, 116]⟩, .string ⟨#[97, 100, 106, 117, 115, 116, 101, 100]⟩]) (.int .i64 15)) W = .ok (.string ⟨#[97, 100, 106, 117, 115, 116, 101, 100]⟩) W := fun W => by kernel_rfl
        unfold namesA at HNM
        go_enter Tryd.func28, Tryd.ntmps28
        go_wp2_with (go_at_call 35; refine (HNM.out _).mono ?_; rintro e w1 ⟨rfl, hb⟩; have HB := Lib.hid hb; clear hb)
        go_ret
        exact ⟨ret_str (by rfl), HB.out⟩
end Go.Proofs.YtaccjfoifkfpfaaDoor
