/- What a reader keeps beside a box of the call's own. -/
import Derived.Test.YtplghpamckdklaaRcM
import Derived.Test.YtplghpamckdklaaBlobReader
import Derived.WalkMore
namespace Go.Proofs.Ytplghpamckdklaa
open Go.RowKit
set_option maxRecDepth 100000
set_option linter.unusedSimpArgs false
set_option linter.unusedVariables false

/-- a reader at g that is not bad, and beside it a box that its calls leave alone -/
def RD (w : World) (B g : Nat) (T : Text) (b : Nat) (o : Obj) : Prop := Rdr w g false T ∧ B ≤ g ∧ w.heap[b]? = some o ∧ g < b
theorem RD.box {w : World} {B g b : Nat} {T : Text} {o : Obj} (h : RD w B g T b o) : w.heap[b]? = some o := h.2.2.1
theorem RD.got {w w1 : World} {B g b : Nat} {T r : Text} {o : Obj} {z v : Value} {e : Ending} (h : RD w B g T b o) (hg : Got w g false z (some (v, r)) e w1) : e = .returned v ∧ RD w1 B g r b o ∧ Below B w w1 := by
  obtain ⟨he, hr, ho⟩ := hg
  obtain ⟨h1, h2, h3, h4⟩ := h
  exact ⟨he, ⟨hr, h2, (ho.block b (heapLt h3) (Nat.ne_of_gt h4)).trans h3, h4⟩, ⟨ho.os, ho.tape, ho.output, ho.size, fun k hk => by
    obtain ⟨A, c, hh, _⟩ := h1
    have := heapLt hh
    exact ho.block k (by omega) (by omega)⟩⟩
theorem RD.num {w : World} {B g b : Nat} {T r : Text} {o : Obj} (h : RD w B g T b o) (x : Int) (hp : numP T = some (x, r)) :
    Calls Try.prog 54 #[.pointer (some ⟨g, 0, none⟩)] w fun e w1 => e = .returned (.int .i64 x) ∧ RD w1 B g r b o ∧ Below B w w1 := by
  have hc := code_rnum w g false T h.1
  rw [hp] at hc
  exact hc.mono fun e w1 hg => h.got hg
theorem RD.text {w : World} {B g b : Nat} {T r : Text} {o : Obj} (h : RD w B g T b o) (x : ByteArray) (hp : textP T = some (x, r)) :
    Calls Try.prog 55 #[.pointer (some ⟨g, 0, none⟩)] w fun e w1 => e = .returned (.string x) ∧ RD w1 B g r b o ∧ Below B w w1 := by
  have hc := code_rtext w g false T h.1
  rw [hp] at hc
  exact hc.mono fun e w1 hg => h.got hg
theorem RD.flag {w : World} {B g b : Nat} {T r : Text} {o : Obj} (h : RD w B g T b o) (x : Bool) (hp : flagP T = some (x, r)) :
    Calls Try.prog 77 #[.pointer (some ⟨g, 0, none⟩)] w fun e w1 => e = .returned (.bool x) ∧ RD w1 B g r b o ∧ Below B w w1 := by
  have hc := code_rflag w g false T h.1
  rw [hp] at hc
  exact hc.mono fun e w1 hg => h.got hg
theorem RD.drew {w : World} {B g b : Nat} {T : Text} {o : Obj} (h : RD w B g T b o) (hr : Rdr w.drew g false T) : RD w.drew B g T b o := ⟨hr, h.2.1, h.2.2.1, h.2.2.2⟩
end Go.Proofs.Ytplghpamckdklaa
