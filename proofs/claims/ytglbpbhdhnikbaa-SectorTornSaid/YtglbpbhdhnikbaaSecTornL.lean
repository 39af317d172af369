/- The statement on a torn write, at every input. -/
import Derived.Test.YtglbpbhdhnikbaaSecTornW
namespace Go.Proofs.Ytglbpbhdhnikbaa
open Go.RowKit
set_option maxRecDepth 100000

theorem sectorTorn_any (many i after torn : Int) (a b : UInt8) (w : World) :
    Calls Try.prog 5 #[.int .i64 many, .int .i64 i, .int .i64 after, .int .i64 torn, .int .u8 a.toNat, .int .u8 b.toNat] w fun e w' => e = .returned (.bool true) ∧ Below w.heap.size w w' := by
  by_cases h : 1 ≤ many ∧ many ≤ 40 ∧ 0 ≤ i ∧ i < many ∧ 0 ≤ after ∧ after ≤ 40 ∧ 0 ≤ torn ∧ torn ≤ 64
  · obtain ⟨h1, h2, h3, h4, h5, h6, h7, h8⟩ := h
    obtain ⟨m, rfl⟩ : ∃ m : Nat, many = (m : Int) := ⟨many.toNat, by omega⟩
    obtain ⟨j, rfl⟩ : ∃ m : Nat, i = (m : Int) := ⟨i.toNat, by omega⟩
    obtain ⟨c, rfl⟩ : ∃ m : Nat, after = (m : Int) := ⟨after.toNat, by omega⟩
    obtain ⟨t, rfl⟩ : ∃ m : Nat, torn = (m : Int) := ⟨torn.toNat, by omega⟩
    exact torn_in m j c t a b w (by omega) (by omega) (by omega) (by omega) (by omega)
  · exact torn_out many i after torn a b w (by omega)
/-- a byte that came in -/
theorem byte_of {n : Int} (h : (Lit.int .u8 n).wf = true) : ∃ x : UInt8, n = (x.toNat : Int) := by
  have h1 : 0 ≤ n ∧ n < 256 := by
    simp [Lit.wf, IntKind.min, IntKind.max, IntKind.signed, IntKind.bits] at h
    omega
  refine ⟨UInt8.ofNat n.toNat, ?_⟩
  rw [UInt8.toNat_ofNat']
  omega
end Go.Proofs.Ytglbpbhdhnikbaa
