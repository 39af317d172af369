/- The statement on a disk that is played with, at every input. -/
import Derived.Test.YtglbpbhdhnikbaaSecPlayW
namespace Go.Proofs.Ytglbpbhdhnikbaa
open Go.RowKit
set_option maxRecDepth 100000

set_option maxHeartbeats 1000000 in
theorem plays_out (many : Int) (n : Nat) (A : Option Addr) (cap : Nat) (w : World) (h : 60 < n ∨ (n ≤ 60 ∧ 40 < many ∧ many ≤ 4096) ∨ (n ≤ 60 ∧ 4096 < many) ∨ (n ≤ 60 ∧ many < 1)) :
    Calls Try.prog 4 #[.int .i64 many, .slice A n cap] w fun e w' => e = .returned (.bool true) ∧ Below w.heap.size w w' := by
  have HL := Lib.hid (sec_lives w)
  rcases h with h1 | ⟨h1, h2, h3⟩ | ⟨h1, h2⟩ | ⟨h1, h2⟩
  · have i1 : (60 : Int) < (n : Int) := by omega
    go_enter Try.func4, Try.ntmps4
    go_wp2_with (go_at_call 16; refine HL.out.mono ?_; rintro e w6 ⟨rfl, hb6⟩; have HB := Lib.hid hb6; clear hb6)
    go_ret
    exact ⟨rfl, HB.out⟩
  · have i1 : (n : Int) ≤ 60 := by omega
    go_enter Try.func4, Try.ntmps4
    go_wp2_with (go_at_call 16; refine HL.out.mono ?_; rintro e w6 ⟨rfl, hb6⟩; have HB := Lib.hid hb6; clear hb6)
    go_ret
    exact ⟨rfl, HB.out⟩
  · have i1 : (n : Int) ≤ 60 := by omega
    have i2 : (40 : Int) < many := by omega
    have i3 : (1 : Int) ≤ many := by omega
    have HN := Lib.hid (code_dnone w many (.inr h2))
    go_enter Try.func4, Try.ntmps4
    go_wp2_with (first
      | (go_at_call 17; refine HN.out.mono ?_; rintro e w1 ⟨rfl, rfl⟩)
      | (go_at_call 16; refine HL.out.mono ?_; rintro e w6 ⟨rfl, hb6⟩; have HB := Lib.hid hb6; clear hb6))
    go_ret
    exact ⟨rfl, HB.out⟩
  · have i1 : (n : Int) ≤ 60 := by omega
    have i2 : many ≤ 40 := by omega
    have HN := Lib.hid (code_dnone w many (.inl h2))
    go_enter Try.func4, Try.ntmps4
    go_wp2_with (first
      | (go_at_call 17; refine HN.out.mono ?_; rintro e w1 ⟨rfl, rfl⟩)
      | (go_at_call 16; refine HL.out.mono ?_; rintro e w6 ⟨rfl, hb6⟩; have HB := Lib.hid hb6; clear hb6))
    go_ret
    exact ⟨rfl, HB.out⟩
theorem sectorPlays_any (many : Int) (L : List StepV) (A : Option Addr) (cap : Nat) (w : World) (hS : Stps w A L) :
    Calls Try.prog 4 #[.int .i64 many, .slice A L.length cap] w fun e w' => e = .returned (.bool true) ∧ Below w.heap.size w w' := by
  by_cases h : 1 ≤ many ∧ many ≤ 40 ∧ L.length ≤ 60
  · obtain ⟨h1, h2, h3⟩ := h
    obtain ⟨m, rfl⟩ : ∃ m : Nat, many = (m : Int) := ⟨many.toNat, by omega⟩
    exact plays_in m L A cap w (by omega) (by omega) h3 hS
  · exact plays_out many L.length A cap w (by omega)
end Go.Proofs.Ytglbpbhdhnikbaa
