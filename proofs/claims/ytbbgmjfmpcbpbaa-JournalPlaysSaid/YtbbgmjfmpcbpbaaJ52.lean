/- Whatever stands on a disk, whatever is kept behind it, with power that goes: JournalPlays, whatever comes in. -/
import Derived.Test.YtbbgmjfmpcbpbaaJ51
namespace Go.Proofs.Ytbbgmjfmpcbpbaa
open Go.RowKit
set_option maxRecDepth 100000

theorem journalPlays_any (many : Int) (L : List PartV) (A : Option Addr) (cap : Nat) (l : List Text) (A2 : Option Addr) (cap2 : Nat) (after torn : Int) (w : World) (hP : PartsAt w A L) (hB : BatsAt w A2 l) (hl : l.length ≤ 9223372036854775807) (ha : after ≤ 9223372036854775807) :
    Calls Try.prog 7 #[.int .i64 many, .slice A L.length cap, .slice A2 l.length cap2, .int .i64 after, .int .i64 torn] w fun e w' => e = .returned (.bool true) ∧ Below w.heap.size w w' := by
  cases hq : lightB many L with
  | false => exact jplays_heavy many L A cap l A2 cap2 after torn w hP hB hl (.inl hq)
  | true =>
    cases hj : jlight l with
    | false => exact jplays_heavy many L A cap l A2 cap2 after torn w hP hB hl (.inr hj)
    | true =>
      by_cases hc : (WX (fusedD many.toNat (lawP L) after torn) (findT (fusedD many.toNat (lawP L) after torn).S (fusedD many.toNat (lawP L) after torn).many).2).2.2 = 0
      · exact jplays_yes many L A cap l A2 cap2 after torn w hP hB hl ha hq hj hc
      · exact jplays_cut many L A cap l A2 cap2 after torn w hP hB hl ha hq hj hc
end Go.Proofs.Ytbbgmjfmpcbpbaa
