/- Commands without the fields that their kind names: the program's. -/
import Derived.Test.YtjanhgekocpobaaRcC
import Derived.WalkMore
import Derived.Deep.Cut
import Derived.Deep.DeepCutAuto
import Derived.Laws.Tables
import Derived.Laws.CopyOwn
namespace Go.Proofs.Ytjanhgekocpobaa
open Go.RowKit
set_option maxRecDepth 100000
set_option linter.unusedSimpArgs false
set_option linter.unusedVariables false

theorem cmd_info {n : Nat} (h : n = 22) : (Try.prog.info? 54).map (·.size) = some n := by subst h; kernel_rfl
abbrev zeroCmd : Array Value := #[.int .i64 0, .string ⟨#[]⟩, .string ⟨#[]⟩, .int .i64 0, .int .i64 0, .int .i64 0, .int .i64 0, .int .i64 0, .int .i64 0, .int .i64 0, .int .i64 0, .int .i64 0, .int .i64 0, .string ⟨#[]⟩, .bool false, .bool false, .string ⟨#[]⟩, .int .i64 0, .string ⟨#[]⟩, .string ⟨#[]⟩, .string ⟨#[]⟩, .slice none 0 0]
theorem zeroCmd_size : zeroCmd.size = 22 := rfl
def bare11 (cs : Array Value) : Array Value := (((cs.setIfInBounds 10 (.int .i64 0)).setIfInBounds 11 (.int .i64 0)).setIfInBounds 12 (.int .i64 0))
theorem bare11_size (cs : Array Value) : (bare11 cs).size = cs.size := by unfold bare11; simp
def bare8 (cs : Array Value) : Array Value := (((((((((cs.setIfInBounds 13 (.string ⟨#[]⟩)).setIfInBounds 14 (.bool false)).setIfInBounds 15 (.bool false)).setIfInBounds 16 (.string ⟨#[]⟩)).setIfInBounds 17 (.int .i64 0)).setIfInBounds 18 (.string ⟨#[]⟩)).setIfInBounds 19 (.string ⟨#[]⟩)).setIfInBounds 20 (.string ⟨#[]⟩)).setIfInBounds 21 (.slice none 0 0))
theorem bare8_size (cs : Array Value) : (bare8 cs).size = cs.size := by unfold bare8; simp
end Go.Proofs.Ytjanhgekocpobaa
