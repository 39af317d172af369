/- Rates in memory: a map from a state and a category to a line. -/
import Derived.Test.YtlnpflfkkjcopaaRtV
import Derived.Test.YtlnpflfkkjcopaaTlP
import Derived.Test.YtlnpflfkkjcopaaLawEndB
import Derived.Maps.OwnSet
import Derived.DeepKeys4
namespace Go.Proofs.Ytlnpflfkkjcopaa
open Go.RowKit
set_option maxRecDepth 100000

abbrev tKey : TypeId := 90
def keyV (s : ByteArray) (c : Int) : Value := .agg #[.string s, .int .i64 c]
def keyL (s : ByteArray) (c : Int) : Lit := .string (keyBytes [.string s.data.toList, .int .i64 c])
theorem keyRow : (90 : TypeId) < Try.prog.types.size := of_decide_eq_true (by kernel_rfl)
theorem keyWide : (match Try.prog.underlying 90 with | some (.array _ _) | some (.struct _) => true | _ => false) = true := by rw [Try.underlying90]
theorem keyR : Maps.Keyed Try.prog 90 := Maps.Keyed.of_law (deep_law_laid laidOut (m := 2) (by omega) keyRow (by kernel_rfl) keyWide)
theorem cellsKey : Try.prog.cellsOf 90 = 2 := by kernel_rfl
theorem cellsInt1 : Try.prog.cellsOf 3 = 1 := by kernel_rfl
theorem cellsStr1 : Try.prog.cellsOf 9 = 1 := by kernel_rfl
theorem keyOk (s : ByteArray) (c : Int) (hs : s.size ≤ 1000) (hc : 1 ≤ c ∧ c ≤ 3) : keyOf Try.prog 90 (keyV s c) = some (keyL s c) := by
  have hm : s.size ≤ maxLen := by unfold maxLen; omega
  have hw : (Lit.int .i64 c).wf = true := by simp [Lit.wf, IntKind.min, IntKind.max, IntKind.signed, IntKind.bits]; omega
  have h1 : Try.prog.keyType 90 = true := by kernel_rfl
  have h2 : (keyV s c).formed Try.prog 90 = true := by simp [keyV, Value.formed, Try.underlying90, cellsKey]
  obtain ⟨m, hm2⟩ := Nat.exists_eq_succ_of_ne_zero (Nat.ne_of_gt (Nat.lt_of_le_of_lt (Nat.zero_le _) keyRow))
  have h3 : Try.prog.keyLits (Try.prog.types.size + 1) 90 (keyV s c).cells.toList = some [.string s.data.toList, .int .i64 c] := by
    rw [hm2, Nat.succ_eq_add_one]
    simp [Program.keyLits, keyV, Value.cells, Try.underlying90, Try.underlying9, Try.underlying3, cellsKey, cellsInt1, cellsStr1, hm, hw]
  unfold keyOf
  rw [Try.underlying90]
  simp only [h1, h2, h3, Bool.and_self, if_true, Option.map_some]
  rfl
theorem keyL_ne {s s' : ByteArray} {c c' : Int} (hs : s.size ≤ 1000) (hs' : s'.size ≤ 1000) (hc : 1 ≤ c ∧ c ≤ 3) (hc' : 1 ≤ c' ∧ c' ≤ 3) (hne : ¬ (s = s' ∧ c = c')) : keyL s c ≠ keyL s' c' := fun e => by
  have h1 := keyOk s c hs hc
  have h2 := keyOk s' c' hs' hc'
  rw [← e] at h2
  have := keyR.inj h1 h2
  unfold keyV at this
  injection this with this
  injection this with this
  simp only [List.cons.injEq, Value.string.injEq, Value.int.injEq, and_true, true_and] at this
  exact hne this
end Go.Proofs.Ytlnpflfkkjcopaa
