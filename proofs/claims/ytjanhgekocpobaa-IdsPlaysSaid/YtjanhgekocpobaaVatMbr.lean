/- The program's own: is a country a member state; is a number right. -/
import Derived.Test.YtjanhgekocpobaaVatForm2
import Derived.Test.YtjanhgekocpobaaVatShelf
namespace Go.Proofs.Ytjanhgekocpobaa
open Go.RowKit Go.Maps
set_option maxRecDepth 1000000

/-- the program's list of them -/
def memsB : ByteArray := ({ data := #[65, 84, 32, 66, 69, 32, 66, 71, 32, 67, 89, 32, 67, 90, 32, 68, 69, 32, 68, 75, 32, 69, 69, 32, 69, 76, 32, 69, 83, 32, 70, 73, 32, 70, 82, 32, 72, 82, 32, 72, 85, 32, 73, 69, 32, 73, 84, 32, 76, 84, 32, 76, 85, 32, 76, 86, 32, 77, 84, 32, 78, 76, 32, 80, 76, 32, 80, 84, 32, 82, 79, 32, 83, 69, 32, 83, 73, 32, 83, 75] } : ByteArray)
def memL (t : List UInt8) : Bool := (tabL.map fun p => strT p.1).any fun k => decide (k = t)
theorem isMem_memL (c : ByteArray) : isMem c = memL (strT c) := by
  unfold isMem memL
  rw [List.any_map, List.any_map, Bool.eq_iff_iff, List.any_eq_true, List.any_eq_true]
  constructor
  · rintro ⟨p, h1, h2⟩
    exact ⟨p, h1, by simp only [Function.comp, decide_eq_true_iff] at *; rw [h2]⟩
  · rintro ⟨p, h1, h2⟩
    exact ⟨p, h1, by simp only [Function.comp, decide_eq_true_iff] at *; exact strT_inj h2⟩
theorem mem_pairs : ((List.range 26).all fun i => (List.range 26).all fun j => memL [UInt8.ofNat (65 + i), UInt8.ofNat (65 + j)] == Lib.contains memsB.data.toList [UInt8.ofNat (65 + i), UInt8.ofNat (65 + j)]) = true := by decide +kernel
theorem letter_of {a : UInt8} (h : Vat.letter a.toNat = true) : ∃ i ∈ List.range 26, a = UInt8.ofNat (65 + i) := by
  unfold Vat.letter at h
  simp only [Bool.and_eq_true, decide_eq_true_iff] at h
  refine ⟨a.toNat - 65, List.mem_range.2 (by omega), UInt8.toNat_inj.1 ?_⟩
  rw [UInt8.toNat_ofNat']; omega
theorem mem_contains {c : ByteArray} (h : Vat.country (strT c) = true) : Lib.contains memsB.data.toList c.data.toList = isMem c := by
  rw [isMem_memL]
  show Lib.contains memsB.data.toList (strT c) = _
  generalize strT c = t at *
  match t, h with
  | [a, b], h =>
    simp only [Vat.country, Bool.and_eq_true] at h
    obtain ⟨i, hi, rfl⟩ := letter_of h.1
    obtain ⟨j, hj, rfl⟩ := letter_of h.2
    have := List.all_eq_true.1 (List.all_eq_true.1 mem_pairs i hi) j hj
    exact (beq_iff_eq.1 this).symm
theorem mem_country : ∀ p ∈ tabL, Vat.country (strT p.1) = true := by decide +kernel
theorem not_mem {c : ByteArray} (h : Vat.country (strT c) = false) : isMem c = false := by
  unfold isMem
  rw [List.any_map, List.any_eq_false]
  intro p hp
  simp only [Function.comp, decide_eq_true_iff]
  intro e
  have := mem_country p hp
  rw [e, h] at this
  cases this
/-- the library's variable is a number -/
def MaxL (w : World) : Prop := 0 < w.heap.size ∧ ∃ m, w.cell? ⟨0, 0, none⟩ = some (.int .i64 m)
theorem MaxL.below {w w' : World} (h : MaxL w) (hb : Below w.heap.size w w') : MaxL w' := by
  obtain ⟨h1, m, h2⟩ := h
  exact ⟨Nat.lt_of_lt_of_le h1 hb.size, m, (hb.cell (p := ⟨0, 0, none⟩) h1).trans h2⟩
theorem code_member (c : ByteArray) (w : World) (hc : c.size ≤ 9223372036854775807) (hM : MaxL w) : Calls Try.prog 51 #[.string c] w fun e w' => e = .returned (.bool (isMem c)) ∧ w = w' := by
  have HC := Lib.hid (code_country c w hc)
  cases h : Vat.country (strT c) with
  | false =>
    rw [h] at HC
    rw [not_mem h]
    go_enter Try.func51, Try.ntmps51
    go_wp2_with (go_at_call 36; refine HC.out.mono ?_; rintro e w1 ⟨rfl, rfl⟩)
    go_ret
    exact ⟨rfl, rfl⟩
  | true =>
    rw [h] at HC
    obtain ⟨_, m, hm⟩ := hM
    have HS : Hid (Calls Try.prog 60 #[.string ({ data := #[65, 84, 32, 66, 69, 32, 66, 71, 32, 67, 89, 32, 67, 90, 32, 68, 69, 32, 68, 75, 32, 69, 69, 32, 69, 76, 32, 69, 83, 32, 70, 73, 32, 70, 82, 32, 72, 82, 32, 72, 85, 32, 73, 69, 32, 73, 84, 32, 76, 84, 32, 76, 85, 32, 76, 86, 32, 77, 84, 32, 78, 76, 32, 80, 76, 32, 80, 84, 32, 82, 79, 32, 83, 69, 32, 83, 73, 32, 83, 75] } : ByteArray), .string c] w fun e w' => e = .returned (.bool (isMem c)) ∧ w' = w) := Lib.hid (by
      have := Try.strings_Contains memsB c m w (by decide +kernel) hm
      rw [mem_contains h] at this
      exact this)
    clear h hm
    go_enter Try.func51, Try.ntmps51
    go_wp2_with (first
      | (go_at_call 36; refine HC.out.mono ?_; rintro e w1 ⟨rfl, rfl⟩)
      | (go_at_call 60; refine HS.out.mono ?_; rintro e w1 ⟨rfl, rfl⟩))
    go_ret
    exact ⟨rfl, rfl⟩
end Go.Proofs.Ytjanhgekocpobaa
