/-
  DERIVED. GIVEN WITH THE SEED: THE CARDS: each row of YtaccjfoifkfpfaaDoorRows.lean that lists a variable, with what it lists TIED to the program's text (the seventh form; the later family's looks); each row that meets fmt, with fmt's text TOLD by the authors' own Lean function (tested against real Go, not proved from fmt's source: count such statements apart). THE CARD IS WHAT COUNTS. Prove the row's statement (the work); the ties are given (YtaccjfoifkfpfaaDoorTie.lean); close each card by the builder's one call (the guide's Derived/Test/ToyasCard.lean, 'card_holds'). Laid BY PROGRAM, IN A SANDBOX (cutbox-door.mjs). By AI agents, Wed Nov 11 2026. No macro, syntax, notation, axiom, sorry.
-/
import Derived.Test.YtaccjfoifkfpfaaDoorRows
import GoSem.ClaimSeven
namespace Go.Proofs.YtaccjfoifkfpfaaDoor
namespace Rows

/-- THE TIED CARD OF 'octroilaw25.EntryNames'. -/
def entryNamesCard : Claim7 := { stood := { row := entryNamesRow, standIns := [], harness := (true, "486b33dfb9e4d72a43f813be99c955d1499624f1b75267d0538b6f0b0edbfe5d"), looks := false }, kinds := [], alts := [], laidByText := true, laidKinds := [.data, .data, .data], laidTests := true, laidLooks := .later }
def EntryNamesCardSaid : Prop := Claim7.holds Tryd.pinned (.plain (OpenSpec.ofChange entryNamesSpec)) entryNamesCard

/-- THE TIED CARD OF 'octroilaw25.EntryLines'. -/
def entryLinesCard : Claim7 := { stood := { row := entryLinesRow, standIns := [], harness := (true, "486b33dfb9e4d72a43f813be99c955d1499624f1b75267d0538b6f0b0edbfe5d"), looks := false }, kinds := [], alts := [], laidByText := true, laidKinds := [.data, .data, .data], laidTests := true, laidLooks := .later }
def EntryLinesCardSaid : Prop := Claim7.holds Tryd.pinned (.plain (OpenSpec.ofChange entryLinesSpec)) entryLinesCard

/-- THE TIED CARD OF 'octroilaw25.EntryKnown'. -/
def entryKnownCard : Claim7 := { stood := { row := entryKnownRow, standIns := [], harness := (true, "486b33dfb9e4d72a43f813be99c955d1499624f1b75267d0538b6f0b0edbfe5d"), looks := false }, kinds := [], alts := [], laidByText := true, laidKinds := [.data, .data, .data], laidTests := true, laidLooks := .later }
def EntryKnownCardSaid : Prop := Claim7.holds Tryd.pinned (.plain (OpenSpec.ofChange entryKnownSpec)) entryKnownCard

/-- THE SECOND FORM's CARD OF 'octroilaw25.EntryNames'. -/
def entryNamesUptoCard : Claim7 := { stood := { row := entryNamesUptoRow, standIns := [], harness := (true, "486b33dfb9e4d72a43f813be99c955d1499624f1b75267d0538b6f0b0edbfe5d"), looks := false }, kinds := [], alts := [], laidByText := true, laidKinds := [.data, .data, .data], laidTests := true, laidLooks := .later }
def EntryNamesUptoCardSaid : Prop := Claim7.holds Tryd.pinned (.plain (OpenSpec.upto entryNamesSpec)) entryNamesUptoCard

/-- THE SECOND FORM's CARD OF 'octroilaw25.EntryLines'. -/
def entryLinesUptoCard : Claim7 := { stood := { row := entryLinesUptoRow, standIns := [], harness := (true, "486b33dfb9e4d72a43f813be99c955d1499624f1b75267d0538b6f0b0edbfe5d"), looks := false }, kinds := [], alts := [], laidByText := true, laidKinds := [.data, .data, .data], laidTests := true, laidLooks := .later }
def EntryLinesUptoCardSaid : Prop := Claim7.holds Tryd.pinned (.plain (OpenSpec.upto entryLinesSpec)) entryLinesUptoCard

/-- THE SECOND FORM's CARD OF 'octroilaw25.EntryKnown'. -/
def entryKnownUptoCard : Claim7 := { stood := { row := entryKnownUptoRow, standIns := [], harness := (true, "486b33dfb9e4d72a43f813be99c955d1499624f1b75267d0538b6f0b0edbfe5d"), looks := false }, kinds := [], alts := [], laidByText := true, laidKinds := [.data, .data, .data], laidTests := true, laidLooks := .later }
def EntryKnownUptoCardSaid : Prop := Claim7.holds Tryd.pinned (.plain (OpenSpec.upto entryKnownSpec)) entryKnownUptoCard
end Rows
end Go.Proofs.YtaccjfoifkfpfaaDoor
