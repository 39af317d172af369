/- Lists of at most one number, sorted. -/
import Derived.Test.YtbplhjoompgemaaCkJ
namespace Go.Proofs.Ytbplhjoompgemaa
open Go.RowKit
set_option maxRecDepth 100000
set_option linter.unusedSimpArgs false
set_option linter.unusedVariables false
attribute [local go_sem] Oper.semAt_some

set_option maxHeartbeats 2000000 in
theorem code_len0 (w : World) : Calls Try.prog 47 #[.int .u64 0] w fun e w' => (∃ x : Int, e = .returned (.int .i64 x)) ∧ w' = w := by
  have h64 : Calls Try.prog 74 #[.int .u64 0] w fun e w' => (∃ x : Int, e = .returned (.int .i64 x)) ∧ w' = w := by
    go_enter Try.func74, Try.ntmps74
    go_wp2
    go_ret
    exact ⟨⟨_, rfl⟩, rfl⟩
  go_enter Try.func47, Try.ntmps47
  go_wp2_with (go_at_call 74; refine h64.mono ?_; rintro e w2 ⟨⟨x, rfl⟩, rfl⟩)
  go_ret
  exact ⟨⟨_, rfl⟩, rfl⟩
set_option maxHeartbeats 2000000 in
theorem code_insertion0 (A : Option Addr) (c : Nat) (w : World) : Calls Try.prog 64 #[.slice A 0 c, .int .i64 0, .int .i64 0] w fun e w' => e = .returned (.tuple #[]) ∧ w' = w := by
  go_enter Try.func64, Try.ntmps64
  go_wp2
  go_loopw [6] (fun v6 wr => v6 = .int .i64 1 ∧ Hid (wr = w)) (fun _ _ => 0)
  case atStart => exact ⟨rfl, Lib.hid rfl⟩
  case round =>
    obtain ⟨rfl, hwr⟩ := hrel
    obtain rfl := hwr.out
    go_wp2
    first | (refine bodyPost_ret (results_none rfl _ _ _) rfl ?_; exact ⟨rfl, rfl⟩) | (go_end0; exact ⟨rfl, rfl⟩)
set_option maxHeartbeats 2000000 in
theorem code_pdq0 (A : Option Addr) (c : Nat) (x : Int) (w : World) : Calls Try.prog 46 #[.slice A 0 c, .int .i64 0, .int .i64 0, .int .i64 x] w fun e w' => e = .returned (.tuple #[]) ∧ w' = w := by
  go_enter Try.func46, Try.ntmps46
  go_wp2
  go_loopw [1, 2, 3, 8] (fun v1 v2 v3 v8 wr => v1 = .int .i64 0 ∧ v2 = .int .i64 0 ∧ v3 = .int .i64 x ∧ v8 = .bool true ∧ Hid (wr = w)) (fun _ _ _ _ _ => 0)
  case atStart => exact ⟨rfl, rfl, rfl, rfl, Lib.hid rfl⟩
  case round =>
    obtain ⟨rfl, rfl, rfl, rfl, hwr⟩ := hrel
    obtain rfl := hwr.out
    go_wp2_with (go_at_call 64; refine (code_insertion0 A c _).mono ?_; rintro e w2 ⟨rfl, rfl⟩)
    first | (refine bodyPost_ret (results_none rfl _ _ _) rfl ?_; exact ⟨rfl, rfl⟩) | (go_end0; exact ⟨rfl, rfl⟩)
set_option maxHeartbeats 2000000 in
theorem code_Sort0 (A : Option Addr) (c : Nat) (w : World) : Calls Try.prog 31 #[.slice A 0 c] w fun e w' => e = .returned (.tuple #[]) ∧ w' = w := by
  go_enter Try.func31, Try.ntmps31
  go_wp2_with (go_at_call 47; refine (code_len0 _).mono ?_; rintro e w2 ⟨⟨x, rfl⟩, rfl⟩)
  go_wp2_with (go_at_call 46; refine (code_pdq0 A c _ _).mono ?_; rintro e w2 ⟨rfl, rfl⟩)
  first | (refine bodyPost_ret (results_none rfl _ _ _) rfl ?_; exact ⟨rfl, rfl⟩) | (go_end0; exact ⟨rfl, rfl⟩)
theorem code_Compact0 (A : Option Addr) (c : Nat) (w : World) : Calls Try.prog 45 #[.slice A 0 c] w fun e w' => e = .returned (.slice A 0 c) ∧ w' = w := by
  go_enter Try.func45, Try.ntmps45
  go_wp2
  go_ret
  exact ⟨rfl, rfl⟩
set_option maxHeartbeats 2000000 in
theorem code_len1 (w : World) : Calls Try.prog 47 #[.int .u64 1] w fun e w' => (∃ x : Int, e = .returned (.int .i64 x)) ∧ w' = w := by
  have h64 : Calls Try.prog 74 #[.int .u64 1] w fun e w' => (∃ x : Int, e = .returned (.int .i64 x)) ∧ w' = w := by
    go_enter Try.func74, Try.ntmps74
    go_wp2
    go_ret
    exact ⟨⟨_, rfl⟩, rfl⟩
  go_enter Try.func47, Try.ntmps47
  go_wp2_with (go_at_call 74; refine h64.mono ?_; rintro e w2 ⟨⟨x, rfl⟩, rfl⟩)
  go_ret
  exact ⟨⟨_, rfl⟩, rfl⟩
set_option maxHeartbeats 2000000 in
theorem code_insertion1 (A : Option Addr) (c : Nat) (w : World) : Calls Try.prog 64 #[.slice A 1 c, .int .i64 0, .int .i64 1] w fun e w' => e = .returned (.tuple #[]) ∧ w' = w := by
  go_enter Try.func64, Try.ntmps64
  go_wp2
  go_loopw [6] (fun v6 wr => v6 = .int .i64 1 ∧ Hid (wr = w)) (fun _ _ => 0)
  case atStart => exact ⟨rfl, Lib.hid rfl⟩
  case round =>
    obtain ⟨rfl, hwr⟩ := hrel
    obtain rfl := hwr.out
    go_wp2
    first | (refine bodyPost_ret (results_none rfl _ _ _) rfl ?_; exact ⟨rfl, rfl⟩) | (go_end0; exact ⟨rfl, rfl⟩)
set_option maxHeartbeats 2000000 in
theorem code_pdq1 (A : Option Addr) (c : Nat) (x : Int) (w : World) : Calls Try.prog 46 #[.slice A 1 c, .int .i64 0, .int .i64 1, .int .i64 x] w fun e w' => e = .returned (.tuple #[]) ∧ w' = w := by
  go_enter Try.func46, Try.ntmps46
  go_wp2
  go_loopw [1, 2, 3, 8] (fun v1 v2 v3 v8 wr => v1 = .int .i64 0 ∧ v2 = .int .i64 1 ∧ v3 = .int .i64 x ∧ v8 = .bool true ∧ Hid (wr = w)) (fun _ _ _ _ _ => 0)
  case atStart => exact ⟨rfl, rfl, rfl, rfl, Lib.hid rfl⟩
  case round =>
    obtain ⟨rfl, rfl, rfl, rfl, hwr⟩ := hrel
    obtain rfl := hwr.out
    go_wp2_with (go_at_call 64; refine (code_insertion1 A c _).mono ?_; rintro e w2 ⟨rfl, rfl⟩)
    first | (refine bodyPost_ret (results_none rfl _ _ _) rfl ?_; exact ⟨rfl, rfl⟩) | (go_end0; exact ⟨rfl, rfl⟩)
set_option maxHeartbeats 2000000 in
theorem code_Sort1 (A : Option Addr) (c : Nat) (w : World) : Calls Try.prog 31 #[.slice A 1 c] w fun e w' => e = .returned (.tuple #[]) ∧ w' = w := by
  go_enter Try.func31, Try.ntmps31
  go_wp2_with (go_at_call 47; refine (code_len1 _).mono ?_; rintro e w2 ⟨⟨x, rfl⟩, rfl⟩)
  go_wp2_with (go_at_call 46; refine (code_pdq1 A c _ _).mono ?_; rintro e w2 ⟨rfl, rfl⟩)
  first | (refine bodyPost_ret (results_none rfl _ _ _) rfl ?_; exact ⟨rfl, rfl⟩) | (go_end0; exact ⟨rfl, rfl⟩)
theorem code_Compact1 (A : Option Addr) (c : Nat) (w : World) : Calls Try.prog 45 #[.slice A 1 c] w fun e w' => e = .returned (.slice A 1 c) ∧ w' = w := by
  go_enter Try.func45, Try.ntmps45
  go_wp2
  go_ret
  exact ⟨rfl, rfl⟩
/-- the numbers that a call has put together, in a row of its own -/
def OwnI (w : World) (base : Nat) (v : Value) (l : List Int) : Prop := w.ownsRow base 3 1 v l.length (l.map (Value.int .i64))
theorem factI : (Try.prog.info? 3).map (fun i => (i.zero, i.size, i.bytes)) = some (some (.int .i64 0), 1, 8) := by kernel_rfl
theorem OwnI.nil (w : World) (B : Nat) : OwnI w B (.slice none 0 0) [] := World.ownsRow_nil w _ _ 1
end Go.Proofs.Ytbplhjoompgemaa
