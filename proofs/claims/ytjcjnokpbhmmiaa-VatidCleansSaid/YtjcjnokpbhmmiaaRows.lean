/-
  No cell of these rows narrows 'for every input' (looked for: loops, veiled, ifaces, maps, wideKeys, modest, calm, conditions, laid).
  DERIVED. THE GIVEN ROWS OF THIS SEAT. 6 by the template 'for every input the law returns true; each argument reads behind the call as it read before'; 0 by the template 'total and deterministic' (their statements: YtjcjnokpbhmmiaaTotals.lean).
  GIVEN WITH THE SEED: the statements are not yours to turn. If you find one false, say at which input.
  Laid BY PROGRAM, IN A SANDBOX (cutbox-rows.mjs): the forced cells as the released guide's own fill.sh prints them over the translation 524753f3109089c0… (all of the seat's roots in one cut). By AI agents, Wed Nov 11 2026. No macro, syntax, notation, axiom, sorry.
-/
import Derived.Test.YtjcjnokpbhmmiaaChecked
import GoSem.Claim
import GoSem.ClaimJoined
import GoSem.ClaimMapViews
import Derived.JoinedTies
import Derived.KernelRfl
namespace Go.Proofs.Ytjcjnokpbhmmiaa
/- THE CELL 'sum', in the pinned program and in every row, IS THE sha256 OF THE DUMP (.gsa) THAT YtjcjnokpbhmmiaaProg.lean LOADS. Nothing in Lean hashes anything: it is a label: what it is worth is what the hold of that sum in a sandbox is worth. -/
noncomputable def Try.pinned : Pinned := { name := "ytjcjnokpbhmmiaa", sum := "524753f3109089c0adedf994a7d3164ee1e46fdcefe636bfbe7f3d9aa22fb53c", checked := Try.checked }
namespace Rows
def none {H : Type} : Left H := { results := [], args := [] }

/-- 'octroilaw05.BlobReads': WHATEVER THE INPUT: true; the input reads as it did. -/
def blobReadsSpec : ChangeSpec := { name := "blobReads", fn := fun _ => fun
  | [d1, d2] => { results := [.lit (.bool true)], args := [d1, d2] }
  | _ => none }
def blobReadsRow : OpenClaim := { program := "ytjcjnokpbhmmiaa", sum := "524753f3109089c0adedf994a7d3164ee1e46fdcefe636bfbe7f3d9aa22fb53c", func := "octroi/octroilaw05.BlobReads", spec := "blobReads", unfollowed := true, recurses := true, apart := false }
def BlobReadsSaid : Prop := blobReadsRow.holds Try.pinned (OpenSpec.ofChange blobReadsSpec)

/-- ITS FALSE NEIGHBOUR: 'it returns false'. Refute it at one input. -/
def blobReadsWrong : ChangeSpec := { name := "blobReads", fn := fun _ => fun
  | [d1, d2] => { results := [.lit (.bool false)], args := [d1, d2] }
  | _ => none }
def BlobReadsWrongFalsely : Prop := blobReadsRow.holds Try.pinned (OpenSpec.ofChange blobReadsWrong)

/-- 'octroilaw05.BlobBack': WHATEVER THE INPUT: true; the input reads as it did. -/
def blobBackSpec : ChangeSpec := { name := "blobBack", fn := fun _ => fun
  | [d] => { results := [.lit (.bool true)], args := [d] }
  | _ => none }
def blobBackRow : OpenClaim := { program := "ytjcjnokpbhmmiaa", sum := "524753f3109089c0adedf994a7d3164ee1e46fdcefe636bfbe7f3d9aa22fb53c", func := "octroi/octroilaw05.BlobBack", spec := "blobBack", unfollowed := true, recurses := true, apart := false }
def BlobBackSaid : Prop := blobBackRow.holds Try.pinned (OpenSpec.ofChange blobBackSpec)

/-- ITS FALSE NEIGHBOUR: 'it returns false'. Refute it at one input. -/
def blobBackWrong : ChangeSpec := { name := "blobBack", fn := fun _ => fun
  | [d] => { results := [.lit (.bool false)], args := [d] }
  | _ => none }
def BlobBackWrongFalsely : Prop := blobBackRow.holds Try.pinned (OpenSpec.ofChange blobBackWrong)

/-- 'octroilaw05.BlobOne': WHATEVER THE INPUT: true; the input reads as it did. -/
def blobOneSpec : ChangeSpec := { name := "blobOne", fn := fun _ => fun
  | [d1, d2] => { results := [.lit (.bool true)], args := [d1, d2] }
  | _ => none }
def blobOneRow : OpenClaim := { program := "ytjcjnokpbhmmiaa", sum := "524753f3109089c0adedf994a7d3164ee1e46fdcefe636bfbe7f3d9aa22fb53c", func := "octroi/octroilaw05.BlobOne", spec := "blobOne", unfollowed := true, recurses := true, apart := false }
def BlobOneSaid : Prop := blobOneRow.holds Try.pinned (OpenSpec.ofChange blobOneSpec)

/-- ITS FALSE NEIGHBOUR: 'it returns false'. Refute it at one input. -/
def blobOneWrong : ChangeSpec := { name := "blobOne", fn := fun _ => fun
  | [d1, d2] => { results := [.lit (.bool false)], args := [d1, d2] }
  | _ => none }
def BlobOneWrongFalsely : Prop := blobOneRow.holds Try.pinned (OpenSpec.ofChange blobOneWrong)

/-- 'octroilaw07.VatidNumbers': WHATEVER THE INPUT: true; the input reads as it did. -/
def vatidNumbersSpec : ChangeSpec := { name := "vatidNumbers", fn := fun _ => fun
  | [d1, d2] => { results := [.lit (.bool true)], args := [d1, d2] }
  | _ => none }
def vatidNumbersRow : OpenClaim := { program := "ytjcjnokpbhmmiaa", sum := "524753f3109089c0adedf994a7d3164ee1e46fdcefe636bfbe7f3d9aa22fb53c", func := "octroi/octroilaw07.VatidNumbers", spec := "vatidNumbers", inPlace := ["internal/bytealg.IndexByteString", "internal/bytealg.IndexString", "internal/abi.NoEscape", "internal/bytealg.MakeNoZero"], named := ["internal/bytealg.MaxLen"], apart := false }
def VatidNumbersSaid : Prop := vatidNumbersRow.holds Try.pinned (OpenSpec.ofChange vatidNumbersSpec)

/-- ITS FALSE NEIGHBOUR: 'it returns false'. Refute it at one input. -/
def vatidNumbersWrong : ChangeSpec := { name := "vatidNumbers", fn := fun _ => fun
  | [d1, d2] => { results := [.lit (.bool false)], args := [d1, d2] }
  | _ => none }
def VatidNumbersWrongFalsely : Prop := vatidNumbersRow.holds Try.pinned (OpenSpec.ofChange vatidNumbersWrong)

/-- 'octroilaw07.VatidCleans': WHATEVER THE INPUT: true; the input reads as it did. -/
def vatidCleansSpec : ChangeSpec := { name := "vatidCleans", fn := fun _ => fun
  | [d] => { results := [.lit (.bool true)], args := [d] }
  | _ => none }
def vatidCleansRow : OpenClaim := { program := "ytjcjnokpbhmmiaa", sum := "524753f3109089c0adedf994a7d3164ee1e46fdcefe636bfbe7f3d9aa22fb53c", func := "octroi/octroilaw07.VatidCleans", spec := "vatidCleans", inPlace := ["internal/bytealg.IndexByteString", "internal/bytealg.IndexString", "internal/abi.NoEscape", "internal/bytealg.MakeNoZero"], named := ["internal/bytealg.MaxLen"], apart := false }
def VatidCleansSaid : Prop := vatidCleansRow.holds Try.pinned (OpenSpec.ofChange vatidCleansSpec)

/-- ITS FALSE NEIGHBOUR: 'it returns false'. Refute it at one input. -/
def vatidCleansWrong : ChangeSpec := { name := "vatidCleans", fn := fun _ => fun
  | [d] => { results := [.lit (.bool false)], args := [d] }
  | _ => none }
def VatidCleansWrongFalsely : Prop := vatidCleansRow.holds Try.pinned (OpenSpec.ofChange vatidCleansWrong)

/-- 'octroilaw08.RecordSame': WHATEVER THE INPUT: true; the input reads as it did. -/
def recordSameSpec : ChangeSpec := { name := "recordSame", fn := fun _ => fun
  | [d1, d2] => { results := [.lit (.bool true)], args := [d1, d2] }
  | _ => none }
def recordSameRow : OpenClaim := { program := "ytjcjnokpbhmmiaa", sum := "524753f3109089c0adedf994a7d3164ee1e46fdcefe636bfbe7f3d9aa22fb53c", func := "octroi/octroilaw08.RecordSame", spec := "recordSame", inPlace := ["internal/bytealg.IndexByteString", "internal/bytealg.IndexString", "internal/abi.NoEscape", "internal/bytealg.MakeNoZero"], unfollowed := true, recurses := true, named := ["internal/bytealg.MaxLen"], apart := false }
def RecordSameSaid : Prop := recordSameRow.holds Try.pinned (OpenSpec.ofChange recordSameSpec)

/-- ITS FALSE NEIGHBOUR: 'it returns false'. Refute it at one input. -/
def recordSameWrong : ChangeSpec := { name := "recordSame", fn := fun _ => fun
  | [d1, d2] => { results := [.lit (.bool false)], args := [d1, d2] }
  | _ => none }
def RecordSameWrongFalsely : Prop := recordSameRow.holds Try.pinned (OpenSpec.ofChange recordSameWrong)

/- THE SECOND FORM. 'bulk': how many values and letters a reading holds, each counted each time it is reached (what is shared counts as often as it is met; a slice's spare places count too). A statement '..UptoSaid' is the law's where the arguments, and the package variables that the reading takes, are together of bulk at most 1048576: NARROWER than '..Said'. Prove '..Said' where nothing that the law and all that it calls make is longer than what came in: it says more and counts as full. Else prove '..UptoSaid'. A law counts once. -/
mutual
def uptoBulk {H : Type} : DataW H → Nat
  | .lit (.string bytes) => bytes.length + 1
  | .lit _ => 1
  | .nil => 1
  | .ptr d => uptoBulk d + 1
  | .slice elems spare => uptoBulkAll elems + uptoBulkAll spare + 1
  | .agg parts => uptoBulkAll parts + 1
  | .iface _ d => uptoBulk d + 1
  | .map entries => uptoBulkEntries entries + 1
  | .held _ => 1
def uptoBulkAll {H : Type} : List (DataW H) → Nat
  | [] => 0
  | d :: r => uptoBulk d + uptoBulkAll r
def uptoBulkEntries {H : Type} : List (Lit × DataW H) → Nat
  | [] => 0
  | x :: r => uptoBulkEntry x + uptoBulkEntries r
def uptoBulkEntry {H : Type} : Lit × DataW H → Nat
  | (.string bytes, d) => bytes.length + uptoBulk d + 1
  | (_, d) => uptoBulk d + 1
 end
def uptoSmall : (H : Type) → List (DataW H) → Bool := fun _ ds => decide (uptoBulkAll ds ≤ 1048576)
def OpenSpec.upto (s : _root_.Go.ChangeSpec) : _root_.Go.OpenSpec := { _root_.Go.OpenSpec.ofChange s with cond := some uptoSmall }

/-- 'octroilaw05.BlobReads', WHERE WHAT IT READS IS OF BULK AT MOST 1048576: true; the input reads as it did. -/
def blobReadsUptoRow : OpenClaim := { program := "ytjcjnokpbhmmiaa", sum := "524753f3109089c0adedf994a7d3164ee1e46fdcefe636bfbe7f3d9aa22fb53c", func := "octroi/octroilaw05.BlobReads", spec := "blobReads", unfollowed := true, recurses := true, apart := false, narrowed := true }
def BlobReadsUptoSaid : Prop := blobReadsUptoRow.holds Try.pinned (OpenSpec.upto blobReadsSpec)

/-- 'octroilaw05.BlobBack', WHERE WHAT IT READS IS OF BULK AT MOST 1048576: true; the input reads as it did. -/
def blobBackUptoRow : OpenClaim := { program := "ytjcjnokpbhmmiaa", sum := "524753f3109089c0adedf994a7d3164ee1e46fdcefe636bfbe7f3d9aa22fb53c", func := "octroi/octroilaw05.BlobBack", spec := "blobBack", unfollowed := true, recurses := true, apart := false, narrowed := true }
def BlobBackUptoSaid : Prop := blobBackUptoRow.holds Try.pinned (OpenSpec.upto blobBackSpec)

/-- 'octroilaw05.BlobOne', WHERE WHAT IT READS IS OF BULK AT MOST 1048576: true; the input reads as it did. -/
def blobOneUptoRow : OpenClaim := { program := "ytjcjnokpbhmmiaa", sum := "524753f3109089c0adedf994a7d3164ee1e46fdcefe636bfbe7f3d9aa22fb53c", func := "octroi/octroilaw05.BlobOne", spec := "blobOne", unfollowed := true, recurses := true, apart := false, narrowed := true }
def BlobOneUptoSaid : Prop := blobOneUptoRow.holds Try.pinned (OpenSpec.upto blobOneSpec)

/-- 'octroilaw07.VatidNumbers', WHERE WHAT IT READS IS OF BULK AT MOST 1048576: true; the input reads as it did. -/
def vatidNumbersUptoRow : OpenClaim := { program := "ytjcjnokpbhmmiaa", sum := "524753f3109089c0adedf994a7d3164ee1e46fdcefe636bfbe7f3d9aa22fb53c", func := "octroi/octroilaw07.VatidNumbers", spec := "vatidNumbers", inPlace := ["internal/bytealg.IndexByteString", "internal/bytealg.IndexString", "internal/abi.NoEscape", "internal/bytealg.MakeNoZero"], named := ["internal/bytealg.MaxLen"], apart := false, narrowed := true }
def VatidNumbersUptoSaid : Prop := vatidNumbersUptoRow.holds Try.pinned (OpenSpec.upto vatidNumbersSpec)

/-- 'octroilaw07.VatidCleans', WHERE WHAT IT READS IS OF BULK AT MOST 1048576: true; the input reads as it did. -/
def vatidCleansUptoRow : OpenClaim := { program := "ytjcjnokpbhmmiaa", sum := "524753f3109089c0adedf994a7d3164ee1e46fdcefe636bfbe7f3d9aa22fb53c", func := "octroi/octroilaw07.VatidCleans", spec := "vatidCleans", inPlace := ["internal/bytealg.IndexByteString", "internal/bytealg.IndexString", "internal/abi.NoEscape", "internal/bytealg.MakeNoZero"], named := ["internal/bytealg.MaxLen"], apart := false, narrowed := true }
def VatidCleansUptoSaid : Prop := vatidCleansUptoRow.holds Try.pinned (OpenSpec.upto vatidCleansSpec)

/-- 'octroilaw08.RecordSame', WHERE WHAT IT READS IS OF BULK AT MOST 1048576: true; the input reads as it did. -/
def recordSameUptoRow : OpenClaim := { program := "ytjcjnokpbhmmiaa", sum := "524753f3109089c0adedf994a7d3164ee1e46fdcefe636bfbe7f3d9aa22fb53c", func := "octroi/octroilaw08.RecordSame", spec := "recordSame", inPlace := ["internal/bytealg.IndexByteString", "internal/bytealg.IndexString", "internal/abi.NoEscape", "internal/bytealg.MakeNoZero"], unfollowed := true, recurses := true, named := ["internal/bytealg.MaxLen"], apart := false, narrowed := true }
def RecordSameUptoSaid : Prop := recordSameUptoRow.holds Try.pinned (OpenSpec.upto recordSameSpec)

end Rows
end Go.Proofs.Ytjcjnokpbhmmiaa
