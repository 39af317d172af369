/-
  DERIVED. GIVEN WITH THE SEED: THE CARDS: each row of YtjcjnokpbhmmiaaDoorRows.lean that lists a variable, with what it lists TIED to the program's text (the seventh form; the later family's looks); each row that meets fmt, with fmt's text TOLD by the authors' own Lean function (tested against real Go, not proved from fmt's source: count such statements apart). THE CARD IS WHAT COUNTS. Prove the row's statement (the work); the ties are given (YtjcjnokpbhmmiaaDoorTie.lean); close each card by the builder's one call (the guide's Derived/Test/ToyasCard.lean, 'card_holds'). Laid BY PROGRAM, IN A SANDBOX (cutbox-door.mjs). By AI agents, Wed Nov 11 2026. No macro, syntax, notation, axiom, sorry.
-/
import Derived.Test.YtjcjnokpbhmmiaaDoorRows
import GoSem.ClaimSeven
namespace Go.Proofs.YtjcjnokpbhmmiaaDoor
namespace Rows

/-- THE TIED CARD OF 'octroilaw07.VatidCountries'. -/
def vatidCountriesCard : Claim7 := { stood := { row := vatidCountriesRow, standIns := [], harness := (true, "ecb1f521092219322672facdda4d0cd217320e7e32b43ee4ef35588c8f09be6e"), looks := false }, kinds := [], alts := [], laidByText := true, laidKinds := [.listed, .data], laidTests := true, laidLooks := .later }
def VatidCountriesCardSaid : Prop := Claim7.holds Tryd.pinned (.plain (OpenSpec.ofChange vatidCountriesSpec)) vatidCountriesCard

/-- THE SECOND FORM's CARD OF 'octroilaw07.VatidCountries'. -/
def vatidCountriesUptoCard : Claim7 := { stood := { row := vatidCountriesUptoRow, standIns := [], harness := (true, "ecb1f521092219322672facdda4d0cd217320e7e32b43ee4ef35588c8f09be6e"), looks := false }, kinds := [], alts := [], laidByText := true, laidKinds := [.listed, .data], laidTests := true, laidLooks := .later }
def VatidCountriesUptoCardSaid : Prop := Claim7.holds Tryd.pinned (.plain (OpenSpec.upto vatidCountriesSpec)) vatidCountriesUptoCard
end Rows
end Go.Proofs.YtjcjnokpbhmmiaaDoor
