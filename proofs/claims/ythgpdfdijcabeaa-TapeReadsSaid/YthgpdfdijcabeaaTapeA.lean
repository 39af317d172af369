/- A batch's numbers: how many sectors it has, which may be its own. -/
import Derived.Test.YthgpdfdijcabeaaTxt
namespace Go.Proofs.Ythgpdfdijcabeaa
open Go.RowKit
set_option maxRecDepth 100000

def seqOk (s : Int) : Bool := decide (1 ≤ s) && decide (s ≤ 4611686018427387904)
def needV (n : Int) : Int := if n < 1 ∨ 131072 < n then 0 else 2 + (n + 63) / 64
theorem code_isSeq (s : Int) (w : World) : Calls Try.prog 73 #[.int .i64 s] w fun e w' => e = .returned (.bool (seqOk s)) ∧ w = w' := by
  unfold seqOk
  by_cases h1 : 1 ≤ s
  · by_cases h2 : s ≤ 4611686018427387904
    · go_enter Try.func73, Try.ntmps73
      go_wp2
      go_ret
      exact ⟨by simp [h1, h2], rfl⟩
    · have h2' : 4611686018427387904 < s := by omega
      go_enter Try.func73, Try.ntmps73
      go_wp2
      go_ret
      exact ⟨by simp [h2], rfl⟩
  · have h1' : s < 1 := by omega
    go_enter Try.func73, Try.ntmps73
    go_wp2
    go_ret
    exact ⟨by rw [decide_eq_false (show ¬ 1 ≤ s by omega)]; rfl, rfl⟩
theorem code_isPage (A : Option Addr) (n c : Nat) (w : World) : Calls Try.prog 70 #[.slice A n c] w fun e w' => e = .returned (.bool (decide (n = 64))) ∧ w = w' := by
  go_enter Try.func70, Try.ntmps70
  go_wp2
  go_ret
  refine ⟨?_, rfl⟩
  by_cases h : n = 64
  · subst h; rfl
  · have : ¬ (n : Int) = 64 := by omega
    simp [h, this]
theorem code_between (n : Int) (w : World) (h1 : 0 ≤ n) (h2 : n ≤ 9223372036854775743) : Calls Try.prog 69 #[.int .i64 n] w fun e w' => e = .returned (.int .i64 ((n + 63) / 64)) ∧ w = w' := by
  go_enter Try.func69, Try.ntmps69
  go_wp2
  go_ret
  refine ⟨?_, rfl⟩
  rw [show n + 63 = n + 64 - 1 by omega]
  rfl
theorem code_need (n : Int) (w : World) : Calls Try.prog 19 #[.int .i64 n] w fun e w' => e = .returned (.int .i64 (needV n)) ∧ w = w' := by
  unfold needV
  by_cases h1 : n < 1
  · rw [if_pos (.inl h1)]
    go_enter Try.func19, Try.ntmps19
    go_wp2
    go_ret
    exact ⟨rfl, rfl⟩
  · have h1' : 1 ≤ n := by omega
    by_cases h2 : 131072 < n
    · rw [if_pos (.inr h2)]
      go_enter Try.func19, Try.ntmps19
      go_wp2
      go_ret
      exact ⟨rfl, rfl⟩
    · have h2' : n ≤ 131072 := by omega
      rw [if_neg (by omega)]
      clear h1 h2
      have HB := Lib.hid (code_between n w (by omega) (by omega))
      obtain ⟨k, hk⟩ : ∃ k, k = (n + 63) / 64 := ⟨_, rfl⟩
      have hk1 : 0 ≤ k ∧ k ≤ 2048 := by omega
      rw [← hk] at HB ⊢
      clear hk
      go_enter Try.func19, Try.ntmps19
      go_wp2_with (go_at_call 69; refine HB.out.mono ?_; rintro e w1 ⟨rfl, rfl⟩)
      go_ret
      exact ⟨rfl, rfl⟩
theorem ref_need (n : Int) (w : World) : Calls Try.prog 20 #[.int .i64 n] w fun e w' => e = .returned (.int .i64 (needV n)) ∧ w = w' := by
  unfold needV
  by_cases h1 : n < 1
  · rw [if_pos (.inl h1)]
    go_enter Try.func20, Try.ntmps20
    go_wp2
    go_ret
    exact ⟨rfl, rfl⟩
  · have h1' : 1 ≤ n := by omega
    by_cases h2 : 131072 < n
    · rw [if_pos (.inr h2)]
      go_enter Try.func20, Try.ntmps20
      go_wp2
      go_ret
      exact ⟨rfl, rfl⟩
    · have h2' : n ≤ 131072 := by omega
      rw [if_neg (by omega), show n + 63 = n + 64 - 1 by omega]
      clear h1 h2
      go_enter Try.func20, Try.ntmps20
      go_wp2
      go_ret
      exact ⟨rfl, rfl⟩
/-- a head's number and length are right -/
def headOk (s n : Int) : Bool := seqOk s && decide (0 < needV n)
def headV (s n u : Int) : Value := .agg #[.int .i64 s, .int .i64 n, .int .u32 u]
theorem code_isHead (s n u : Int) (w : World) : Calls Try.prog 59 #[headV s n u] w fun e w' => e = .returned (.bool (headOk s n)) ∧ Below w.heap.size w w' := by
  have HS : Hid (∀ o, Calls Try.prog 73 #[.int .i64 s] (w.alloc o) fun e w' => e = .returned (.bool (seqOk s)) ∧ w.alloc o = w') := Lib.hid (fun o => code_isSeq s _)
  have HN : Hid (∀ o, Calls Try.prog 19 #[.int .i64 n] (w.alloc o) fun e w' => e = .returned (.int .i64 (needV n)) ∧ w.alloc o = w') := Lib.hid (fun o => code_need n _)
  have HB : Hid (∀ o, Below w.heap.size w (w.alloc o)) := Lib.hid (fun o => (Below.refl _ _).alloc (Nat.le_refl _) o)
  obtain ⟨b, hb⟩ : ∃ b, b = seqOk s := ⟨_, rfl⟩
  obtain ⟨k, hk⟩ : ∃ k, k = needV n := ⟨_, rfl⟩
  unfold headOk headV
  rw [← hb] at HS ⊢
  rw [← hk] at HN ⊢
  clear hb hk
  cases b
  · go_enter Try.func59, Try.ntmps59
    go_wp2_with (first
      | (go_at_call 73; refine (HS.out _).mono ?_; rintro e w1 ⟨rfl, rfl⟩))
    go_ret
    exact ⟨rfl, HB.out _⟩
  · go_enter Try.func59, Try.ntmps59
    go_wp2_with (first
      | (go_at_call 73; refine (HS.out _).mono ?_; rintro e w1 ⟨rfl, rfl⟩)
      | (go_at_call 19; refine (HN.out _).mono ?_; rintro e w2 ⟨rfl, rfl⟩))
    go_ret
    exact ⟨by simp, HB.out _⟩
end Go.Proofs.Ythgpdfdijcabeaa
