/-
  DERIVED. GIVEN WITH THE SEED: THE CARDS: each row of YtpapcnogbmjpjaaGreatDoorRows.lean that lists a variable, with what it lists TIED to the program's text (the seventh form; the later family's looks); each row that meets fmt, with fmt's text TOLD by the authors' own Lean function (tested against real Go, not proved from fmt's source: count such statements apart). THE CARD IS WHAT COUNTS. Prove the row's statement (the work); the ties are given (YtpapcnogbmjpjaaGreatDoorTie.lean); close each card by the builder's one call (the guide's Derived/Test/ToyasCard.lean, 'card_holds'). Laid BY PROGRAM, IN A SANDBOX (cutbox-door.mjs). By AI agents, Wed Nov 11 2026. No macro, syntax, notation, axiom, sorry.
-/
import Derived.Test.YtpapcnogbmjpjaaGreatDoorRows
import GoSem.ClaimSeven
namespace Go.Proofs.YtpapcnogbmjpjaaGreatDoor
namespace Rows

/-- THE TIED CARD OF 'octroilaw32.ParserReads'. -/
def parserReadsCard : Claim7 := { stood := { row := parserReadsRow, standIns := [], harness := (true, "976e1a5ca9610203db3316c6ec7413951ba7368cfc339af5425deff6bdd87b2a"), looks := true }, kinds := [], alts := [], laidByText := true, laidKinds := [.data, .data, .data, .sentinel, .sentinel], laidTests := true, laidLooks := .later }
def ParserReadsCardSaid : Prop := Claim7.holds Tryz.pinned (.plain (OpenSpec.ofChange parserReadsSpec)) parserReadsCard

/-- THE TIED CARD OF 'octroilaw32.ParserDeep'. -/
def parserDeepCard : Claim7 := { stood := { row := parserDeepRow, standIns := [], harness := (true, "976e1a5ca9610203db3316c6ec7413951ba7368cfc339af5425deff6bdd87b2a"), looks := true }, kinds := [], alts := [], laidByText := true, laidKinds := [.data, .data, .data, .sentinel, .sentinel], laidTests := true, laidLooks := .later }
def ParserDeepCardSaid : Prop := Claim7.holds Tryz.pinned (.plain (OpenSpec.ofChange parserDeepSpec)) parserDeepCard

/-- THE SECOND FORM's CARD OF 'octroilaw32.ParserReads'. -/
def parserReadsUptoCard : Claim7 := { stood := { row := parserReadsUptoRow, standIns := [], harness := (true, "976e1a5ca9610203db3316c6ec7413951ba7368cfc339af5425deff6bdd87b2a"), looks := true }, kinds := [], alts := [], laidByText := true, laidKinds := [.data, .data, .data, .sentinel, .sentinel], laidTests := true, laidLooks := .later }
def ParserReadsUptoCardSaid : Prop := Claim7.holds Tryz.pinned (.plain (OpenSpec.upto parserReadsSpec)) parserReadsUptoCard

/-- THE SECOND FORM's CARD OF 'octroilaw32.ParserDeep'. -/
def parserDeepUptoCard : Claim7 := { stood := { row := parserDeepUptoRow, standIns := [], harness := (true, "976e1a5ca9610203db3316c6ec7413951ba7368cfc339af5425deff6bdd87b2a"), looks := true }, kinds := [], alts := [], laidByText := true, laidKinds := [.data, .data, .data, .sentinel, .sentinel], laidTests := true, laidLooks := .later }
def ParserDeepUptoCardSaid : Prop := Claim7.holds Tryz.pinned (.plain (OpenSpec.upto parserDeepSpec)) parserDeepUptoCard
end Rows
end Go.Proofs.YtpapcnogbmjpjaaGreatDoor
