/- The document's own sectors: the number that bytes are; a head that may be. -/
import Derived.Test.YthgpdfdijcabeaaTapeR
import Derived.Test.YthgpdfdijcabeaaTapeA
namespace Go.Proofs.Ythgpdfdijcabeaa
open Go.RowKit
set_option maxRecDepth 100000

theorem ref_right (s n u : Int) (w : World) : Calls Try.prog 65 #[headV s n u] w fun e w' => e = .returned (.bool (headOk s n)) ∧ Below w.heap.size w w' := by
  have HB : Hid (∀ o, Below w.heap.size w (w.alloc o)) := Lib.hid (fun o => (Below.refl _ _).alloc (Nat.le_refl _) o)
  unfold headV
  have e : headOk s n = (decide (1 ≤ s) && decide (s ≤ 4611686018427387904) && decide (1 ≤ n) && decide (n ≤ 131072)) := by
    unfold headOk seqOk needV
    by_cases h1 : 1 ≤ n <;> by_cases h2 : n ≤ 131072
    · rw [if_neg (by omega), decide_eq_true h1, decide_eq_true h2, decide_eq_true (by omega : 0 < 2 + (n + 63) / 64)]; simp
    · rw [if_pos (by omega), decide_eq_false h2]; simp
    · rw [if_pos (by omega), decide_eq_false h1]; simp
    · rw [if_pos (by omega), decide_eq_false h1]; simp
  have HE := Lib.hid e
  rw [e]
  clear e
  by_cases h1 : 1 ≤ s
  · by_cases h2 : s ≤ 4611686018427387904
    · by_cases h3 : 1 ≤ n
      · by_cases h4 : n ≤ 131072
        · go_enter Try.func65, Try.ntmps65
          go_wp2
          go_ret
          exact ⟨by first | rfl | (simp; done) | (simp; intros; omega), HB.out _⟩
        · have h4' : 131072 < n := by omega
          go_enter Try.func65, Try.ntmps65
          go_wp2
          go_ret
          exact ⟨by first | rfl | (simp; done) | (simp; intros; omega), HB.out _⟩
      · have h3' : n < 1 := by omega
        go_enter Try.func65, Try.ntmps65
        go_wp2
        go_ret
        exact ⟨by first | rfl | (simp; done) | (simp; intros; omega), HB.out _⟩
    · have h2' : 4611686018427387904 < s := by omega
      go_enter Try.func65, Try.ntmps65
      go_wp2
      go_ret
      exact ⟨by first | rfl | (simp; done) | (simp; intros; omega), HB.out _⟩
  · have h1' : s < 1 := by omega
    go_enter Try.func65, Try.ntmps65
    go_wp2
    go_ret
    exact ⟨by first | rfl | (simp; done) | (simp; intros; omega), HB.out _⟩
theorem wrap_step (N : Nat) (z : Int) : wrap64 (wrap64 (IntKind.i64.wrap (N : Int) * 256) + z) = IntKind.i64.wrap ((N : Int) * 256 + z) := by
  simp only [IntKind.wrap_i64, wrap64]
  omega
set_option maxHeartbeats 1000000 in
theorem ref_number (l : Text) (A : Option Addr) (c : Nat) (w : World) (hl : l.length ≤ 8) (hT : Txt w A l) :
    Calls Try.prog 72 #[.slice A l.length c] w fun e w' => e = .returned (.int .i64 (IntKind.i64.wrap (numT l))) ∧ w = w' := by
  have i1 : (l.length : Int) ≤ 8 := by omega
  have HT := Lib.hid hT
  clear hT
  go_enter Try.func72, Try.ntmps72
  go_wp2
  go_loopw [3, 4] (fun s v wr => ∃ k : Nat, k ≤ l.length ∧ v = .int .i64 k ∧ s = .int .i64 (IntKind.i64.wrap (numT (l.take k))) ∧ Hid (w = wr)) (fun _ v _ => l.length - (intOf v).toNat)
  case atStart => exact ⟨0, by omega, rfl, by simp [numT, IntKind.wrap_i64], Lib.hid rfl⟩
  case round =>
    obtain ⟨k, hk, rfl, rfl, HK⟩ := hrel
    by_cases hlt : k < l.length
    · have hlt' : (k : Int) < (l.length : Int) := by omega
      obtain ⟨a, rfl, hbl, hc⟩ := HT.out (by intro e; rw [e] at hlt; simp at hlt)
      have hx := hc k hlt
      rw [HK.out] at hx
      clear hc
      obtain ⟨x, hxk⟩ : ∃ x, x = l[k] := ⟨_, rfl⟩
      rw [← hxk] at hx
      obtain ⟨z, hz⟩ : ∃ z : Int, z = (x.toNat : Int) := ⟨_, rfl⟩
      have hz0 : 0 ≤ z ∧ z < 256 := by have := x.toNat_lt; omega
      rw [← hz] at hx
      obtain ⟨y, hy⟩ : ∃ y : Int, y = IntKind.i64.wrap (numT (l.take k)) := ⟨_, rfl⟩
      rw [← hy]
      have HZ := Lib.hid (And.intro hz (And.intro hxk hy))
      clear hz hxk hy
      go_wp2
      go_roundw
      case rel =>
        obtain ⟨rfl, rfl, rfl⟩ := HZ.out
        exact ⟨k + 1, by omega, by go_num, by rw [wrap_step, List.take_succ_eq_append_getElem hlt, numT_snoc]; simp, HK⟩
      case measure => simp [intOf]; omega
    · obtain rfl : k = l.length := by omega
      have HK' := HK.out
      go_wp2
      go_ret
      rw [List.take_length]
      exact ⟨rfl, HK.out⟩
end Go.Proofs.Ythgpdfdijcabeaa
