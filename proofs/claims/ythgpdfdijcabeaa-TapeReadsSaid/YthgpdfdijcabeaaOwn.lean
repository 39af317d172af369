/- Bytes in a block of the call's own. -/
import Derived.Test.YthgpdfdijcabeaaPage
import Derived.Test.YthgpdfdijcabeaaTxt2
namespace Go.Proofs.Ythgpdfdijcabeaa
open Go.RowKit
set_option maxRecDepth 100000

theorem own_more {w : World} {B : Nat} {v : Value} {l : Text} (h : w.ownsRow B 5 1 v l.length (l.map cellOf)) (hl : 0 < l.length) :
    ∃ g c, v = .slice (some ⟨g, 0, none⟩) l.length c ∧ l.length ≤ c ∧ c ≤ maxLen ∧ Txt w (some ⟨g, 0, none⟩) l ∧ B ≤ g ∧ g < w.heap.size := by
  rcases h.2 with ⟨rfl, h0⟩ | ⟨g, c, cur, rfl, hB, hh, hc, hm, _⟩
  · omega
  · exact ⟨g, c, rfl, hc, hm, .of_own h, hB, heapLt hh⟩
theorem slice_of_own {w : World} {B n : Nat} {v : Value} {xs : List Value} (h : w.ownsRow B 5 1 v n xs) : ∃ A k c, v = .slice A k c := by
  rcases h.2 with ⟨rfl, _⟩ | ⟨g, c, cur, rfl, _⟩
  · exact ⟨_, _, _, rfl⟩
  · exact ⟨_, _, _, rfl⟩
/-- a slice of a text's bytes in a block of its own -/
def ToldF (w : World) (T : Text) (e : Ending) (w' : World) : Prop := ∃ g c, e = .returned (.slice (some ⟨g, 0, none⟩) T.length c) ∧ T.length ≤ c ∧ c ≤ maxLen ∧ Txt w' (some ⟨g, 0, none⟩) T ∧ Below w.heap.size w w'
theorem text_run_n (w : World) (A : Option Addr) (c n : Nat) (l : Text) (hn : l.length = n) (hT : Txt w A l) (hA : A = none → l = []) : (convert 22 9 (.slice A n c)).run Try.prog w = .ok (.string ⟨l.toArray⟩) w := by
  subst hn
  exact text_run w A c l hT hA
end Go.Proofs.Ythgpdfdijcabeaa
