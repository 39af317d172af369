/- Member states: the program's. -/
import Derived.Test.YtlnpflfkkjcopaaRtV
import Derived.Test.YtlnpflfkkjcopaaLawEndB
import Derived.Test.YtlnpflfkkjcopaaVatShelf
namespace Go.Proofs.Ytlnpflfkkjcopaa
open Go.RowKit
set_option maxRecDepth 100000

def memsB : ByteArray := { data := #[65, 84, 32, 66, 69, 32, 66, 71, 32, 67, 89, 32, 67, 90, 32, 68, 69, 32, 68, 75, 32, 69, 69, 32, 69, 76, 32, 69, 83, 32, 70, 73, 32, 70, 82, 32, 72, 82, 32, 72, 85, 32, 73, 69, 32, 73, 84, 32, 76, 84, 32, 76, 85, 32, 76, 86, 32, 77, 84, 32, 78, 76, 32, 80, 76, 32, 80, 84, 32, 82, 79, 32, 83, 69, 32, 83, 73, 32, 83, 75] }
def isMem (c : ByteArray) : Bool := countryB (bytesOf c) && Lib.contains memsB.data.toList (bytesOf c)
/-- the library's variable is a number -/
def MaxL (w : World) : Prop := 0 < w.heap.size ∧ ∃ m, w.cell? ⟨0, 0, none⟩ = some (.int .i64 m)
theorem MaxL.below {w w' : World} {b : Nat} (h : MaxL w) (hb : Below b w w') (h0 : w.heap.size ≤ b) : MaxL w' := by
  obtain ⟨h1, m, h2⟩ := h
  exact ⟨Nat.lt_of_lt_of_le h1 hb.size, m, ((hb.mono h0).cell (p := ⟨0, 0, none⟩) h1).trans h2⟩
theorem code_member (c : ByteArray) (w : World) (hc : c.size ≤ 9223372036854775807) (hM : MaxL w) : Calls Try.prog 45 #[.string c] w fun e w' => e = .returned (.bool (isMem c)) ∧ w = w' := by
  have HC := Lib.hid (code_country c w hc)
  cases h : countryB (bytesOf c) with
  | false =>
    rw [h] at HC
    rw [show isMem c = false by unfold isMem; rw [h]; rfl]
    go_enter Try.func45, Try.ntmps45
    go_wp2_with (go_at_call 58; refine HC.out.mono ?_; rintro e w1 ⟨rfl, rfl⟩)
    go_ret
    exact ⟨rfl, rfl⟩
  | true =>
    rw [h] at HC
    obtain ⟨_, m, hm⟩ := hM
    have HS : Hid (Calls Try.prog 59 #[.string ({ data := #[65, 84, 32, 66, 69, 32, 66, 71, 32, 67, 89, 32, 67, 90, 32, 68, 69, 32, 68, 75, 32, 69, 69, 32, 69, 76, 32, 69, 83, 32, 70, 73, 32, 70, 82, 32, 72, 82, 32, 72, 85, 32, 73, 69, 32, 73, 84, 32, 76, 84, 32, 76, 85, 32, 76, 86, 32, 77, 84, 32, 78, 76, 32, 80, 76, 32, 80, 84, 32, 82, 79, 32, 83, 69, 32, 83, 73, 32, 83, 75] } : ByteArray), .string c] w fun e w' => e = .returned (.bool (isMem c)) ∧ w' = w) := Lib.hid (by
      have := Try.strings_Contains memsB c m w (by decide +kernel) hm
      have e : Lib.contains memsB.data.toList c.data.toList = isMem c := by
        unfold isMem
        rw [h, Bool.true_and]
        rfl
      rw [e] at this
      exact this)
    clear h hm
    go_enter Try.func45, Try.ntmps45
    go_wp2_with (first
      | (go_at_call 58; refine HC.out.mono ?_; rintro e w1 ⟨rfl, rfl⟩)
      | (go_at_call 59; refine HS.out.mono ?_; rintro e w1 ⟨rfl, rfl⟩))
    go_ret
    exact ⟨rfl, rfl⟩
theorem mem_two {c : ByteArray} (h : isMem c = true) : c.size = 2 := by
  by_cases h2 : c.size = 2
  · exact h2
  · have : countryB (bytesOf c) = false := country_not h2
    unfold isMem at h
    rw [this] at h
    cases h
theorem mem_DE : isMem { data := #[68, 69] } = true := by decide +kernel
end Go.Proofs.Ytlnpflfkkjcopaa
