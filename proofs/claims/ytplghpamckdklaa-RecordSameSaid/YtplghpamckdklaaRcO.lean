/- The chapter's document, read: what stands next, one by one. -/
import Derived.Test.YtplghpamckdklaaRcN
import Derived.Test.YtplghpamckdklaaBlobInv
import Derived.WalkMore
namespace Go.Proofs.Ytplghpamckdklaa
open Go.RowKit
set_option maxRecDepth 100000
set_option linter.unusedSimpArgs false
set_option linter.unusedVariables false

theorem simpleT_is : simpleT = [1, 8, 1, 1, 97, 1, 0, 0, 2, 74, 56, 1, 2, 68, 69, 0, 0, 1, 1, 1, 2, 1, 1, 0, 0, 0, 2, 3, 232, 0, 0, 0] := by decide +kernel
theorem rd0 : numP [1, 8, 1, 1, 97, 1, 0, 0, 2, 74, 56, 1, 2, 68, 69, 0, 0, 1, 1, 1, 2, 1, 1, 0, 0, 0, 2, 3, 232, 0, 0, 0] = some (8, ([1, 1, 97, 1, 0, 0, 2, 74, 56, 1, 2, 68, 69, 0, 0, 1, 1, 1, 2, 1, 1, 0, 0, 0, 2, 3, 232, 0, 0, 0] : Text)) := numP_doc (n := 8) (T := [1, 8]) ([1, 1, 97, 1, 0, 0, 2, 74, 56, 1, 2, 68, 69, 0, 0, 1, 1, 1, 2, 1, 1, 0, 0, 0, 2, 3, 232, 0, 0, 0] : Text) (by decide +kernel) (by decide) (by decide)
theorem rd1 : textP [1, 1, 97, 1, 0, 0, 2, 74, 56, 1, 2, 68, 69, 0, 0, 1, 1, 1, 2, 1, 1, 0, 0, 0, 2, 3, 232, 0, 0, 0] = some (⟨#[97]⟩, ([1, 0, 0, 2, 74, 56, 1, 2, 68, 69, 0, 0, 1, 1, 1, 2, 1, 1, 0, 0, 0, 2, 3, 232, 0, 0, 0] : Text)) := textP_doc (s := ⟨#[97]⟩) (T := [1, 1, 97]) ([1, 0, 0, 2, 74, 56, 1, 2, 68, 69, 0, 0, 1, 1, 1, 2, 1, 1, 0, 0, 0, 2, 3, 232, 0, 0, 0] : Text) (by decide +kernel)
theorem rd2 : flagP [1, 0, 0, 2, 74, 56, 1, 2, 68, 69, 0, 0, 1, 1, 1, 2, 1, 1, 0, 0, 0, 2, 3, 232, 0, 0, 0] = some (true, ([0, 0, 2, 74, 56, 1, 2, 68, 69, 0, 0, 1, 1, 1, 2, 1, 1, 0, 0, 0, 2, 3, 232, 0, 0, 0] : Text)) := flagP_doc true ([0, 0, 2, 74, 56, 1, 2, 68, 69, 0, 0, 1, 1, 1, 2, 1, 1, 0, 0, 0, 2, 3, 232, 0, 0, 0] : Text)
theorem rd3 : flagP [0, 0, 2, 74, 56, 1, 2, 68, 69, 0, 0, 1, 1, 1, 2, 1, 1, 0, 0, 0, 2, 3, 232, 0, 0, 0] = some (false, ([0, 2, 74, 56, 1, 2, 68, 69, 0, 0, 1, 1, 1, 2, 1, 1, 0, 0, 0, 2, 3, 232, 0, 0, 0] : Text)) := flagP_doc false ([0, 2, 74, 56, 1, 2, 68, 69, 0, 0, 1, 1, 1, 2, 1, 1, 0, 0, 0, 2, 3, 232, 0, 0, 0] : Text)
theorem rd4 : textP [0, 2, 74, 56, 1, 2, 68, 69, 0, 0, 1, 1, 1, 2, 1, 1, 0, 0, 0, 2, 3, 232, 0, 0, 0] = some (⟨#[]⟩, ([2, 74, 56, 1, 2, 68, 69, 0, 0, 1, 1, 1, 2, 1, 1, 0, 0, 0, 2, 3, 232, 0, 0, 0] : Text)) := textP_doc (s := ⟨#[]⟩) (T := [0]) ([2, 74, 56, 1, 2, 68, 69, 0, 0, 1, 1, 1, 2, 1, 1, 0, 0, 0, 2, 3, 232, 0, 0, 0] : Text) (by decide +kernel)
theorem rd5 : numP [2, 74, 56, 1, 2, 68, 69, 0, 0, 1, 1, 1, 2, 1, 1, 0, 0, 0, 2, 3, 232, 0, 0, 0] = some (19000, ([1, 2, 68, 69, 0, 0, 1, 1, 1, 2, 1, 1, 0, 0, 0, 2, 3, 232, 0, 0, 0] : Text)) := numP_doc (n := 19000) (T := [2, 74, 56]) ([1, 2, 68, 69, 0, 0, 1, 1, 1, 2, 1, 1, 0, 0, 0, 2, 3, 232, 0, 0, 0] : Text) (by decide +kernel) (by decide) (by decide)
theorem rd6 : textP [1, 2, 68, 69, 0, 0, 1, 1, 1, 2, 1, 1, 0, 0, 0, 2, 3, 232, 0, 0, 0] = some (⟨#[68, 69]⟩, ([0, 0, 1, 1, 1, 2, 1, 1, 0, 0, 0, 2, 3, 232, 0, 0, 0] : Text)) := textP_doc (s := ⟨#[68, 69]⟩) (T := [1, 2, 68, 69]) ([0, 0, 1, 1, 1, 2, 1, 1, 0, 0, 0, 2, 3, 232, 0, 0, 0] : Text) (by decide +kernel)
theorem rd7 : textP [0, 0, 1, 1, 1, 2, 1, 1, 0, 0, 0, 2, 3, 232, 0, 0, 0] = some (⟨#[]⟩, ([0, 1, 1, 1, 2, 1, 1, 0, 0, 0, 2, 3, 232, 0, 0, 0] : Text)) := textP_doc (s := ⟨#[]⟩) (T := [0]) ([0, 1, 1, 1, 2, 1, 1, 0, 0, 0, 2, 3, 232, 0, 0, 0] : Text) (by decide +kernel)
theorem rd8 : textP [0, 1, 1, 1, 2, 1, 1, 0, 0, 0, 2, 3, 232, 0, 0, 0] = some (⟨#[]⟩, ([1, 1, 1, 2, 1, 1, 0, 0, 0, 2, 3, 232, 0, 0, 0] : Text)) := textP_doc (s := ⟨#[]⟩) (T := [0]) ([1, 1, 1, 2, 1, 1, 0, 0, 0, 2, 3, 232, 0, 0, 0] : Text) (by decide +kernel)
theorem rd9 : numP [1, 1, 1, 2, 1, 1, 0, 0, 0, 2, 3, 232, 0, 0, 0] = some (1, ([1, 2, 1, 1, 0, 0, 0, 2, 3, 232, 0, 0, 0] : Text)) := numP_doc (n := 1) (T := [1, 1]) ([1, 2, 1, 1, 0, 0, 0, 2, 3, 232, 0, 0, 0] : Text) (by decide +kernel) (by decide) (by decide)
theorem rd10 : numP [1, 2, 1, 1, 0, 0, 0, 2, 3, 232, 0, 0, 0] = some (2, ([1, 1, 0, 0, 0, 2, 3, 232, 0, 0, 0] : Text)) := numP_doc (n := 2) (T := [1, 2]) ([1, 1, 0, 0, 0, 2, 3, 232, 0, 0, 0] : Text) (by decide +kernel) (by decide) (by decide)
theorem rd11 : numP [1, 1, 0, 0, 0, 2, 3, 232, 0, 0, 0] = some (1, ([0, 0, 0, 2, 3, 232, 0, 0, 0] : Text)) := numP_doc (n := 1) (T := [1, 1]) ([0, 0, 0, 2, 3, 232, 0, 0, 0] : Text) (by decide +kernel) (by decide) (by decide)
theorem rd12 : textP [0, 0, 0, 2, 3, 232, 0, 0, 0] = some (⟨#[]⟩, ([0, 0, 2, 3, 232, 0, 0, 0] : Text)) := textP_doc (s := ⟨#[]⟩) (T := [0]) ([0, 0, 2, 3, 232, 0, 0, 0] : Text) (by decide +kernel)
theorem rd13 : textP [0, 0, 2, 3, 232, 0, 0, 0] = some (⟨#[]⟩, ([0, 2, 3, 232, 0, 0, 0] : Text)) := textP_doc (s := ⟨#[]⟩) (T := [0]) ([0, 2, 3, 232, 0, 0, 0] : Text) (by decide +kernel)
theorem rd14 : textP [0, 2, 3, 232, 0, 0, 0] = some (⟨#[]⟩, ([2, 3, 232, 0, 0, 0] : Text)) := textP_doc (s := ⟨#[]⟩) (T := [0]) ([2, 3, 232, 0, 0, 0] : Text) (by decide +kernel)
theorem rd15 : numP [2, 3, 232, 0, 0, 0] = some (1000, ([0, 0, 0] : Text)) := numP_doc (n := 1000) (T := [2, 3, 232]) ([0, 0, 0] : Text) (by decide +kernel) (by decide) (by decide)
theorem rd16 : flagP [0, 0, 0] = some (false, ([0, 0] : Text)) := flagP_doc false ([0, 0] : Text)
theorem rd17 : numP [0, 0] = some (0, ([0] : Text)) := numP_doc (n := 0) (T := [0]) ([0] : Text) (by decide +kernel) (by decide) (by decide)
theorem rd18 : flagP [0] = some (false, ([] : Text)) := flagP_doc false ([] : Text)
end Go.Proofs.Ytplghpamckdklaa
