/- What a reader keeps beside a box of the call's own. The chapter's document, read: what stands next, one by one. The chapter's document, read from its bytes. -/
import Derived.Test.YtplghpamckdklaaGreatE46
import Derived.Test.YtplghpamckdklaaGreatE15
import Derived.WalkMore
import Derived.Test.YtplghpamckdklaaGreatE16
import Derived.Test.YtplghpamckdklaaGreatE43
namespace Go.Proofs.YtplghpamckdklaaGreat
open Go.RowKit
set_option maxRecDepth 100000
set_option linter.unusedSimpArgs false
set_option linter.unusedVariables false

/-- a reader at g that is not bad, and beside it a box that its calls leave alone -/
def RD (w : World) (B g : Nat) (T : Text) (b : Nat) (o : Obj) : Prop := Rdr w g false T ∧ B ≤ g ∧ w.heap[b]? = some o ∧ g < b
theorem RD.box {w : World} {B g b : Nat} {T : Text} {o : Obj} (h : RD w B g T b o) : w.heap[b]? = some o := h.2.2.1
theorem RD.got {w w1 : World} {B g b : Nat} {T r : Text} {o : Obj} {z v : Value} {e : Ending} (h : RD w B g T b o) (hg : Got w g false z (some (v, r)) e w1) : e = .returned v ∧ RD w1 B g r b o ∧ Below B w w1 := by
 obtain ⟨he, hr, ho⟩ := hg
 obtain ⟨h1, h2, h3, h4⟩ := h
 exact ⟨he, ⟨hr, h2, (ho.block b (heapLt h3) (Nat.ne_of_gt h4)).trans h3, h4⟩, ⟨ho.os, ho.tape, ho.output, ho.size, fun k hk => by
  obtain ⟨A, c, hh, _⟩ := h1
  have := heapLt hh
  exact ho.block k (by omega) (by omega)⟩⟩
theorem RD.num {w : World} {B g b : Nat} {T r : Text} {o : Obj} (h : RD w B g T b o) (x : Int) (hp : numP T = some (x, r)) :
 Calls Tryz.prog 73 #[.pointer (some ⟨g, 0, none⟩)] w fun e w1 => e = .returned (.int .i64 x) ∧ RD w1 B g r b o ∧ Below B w w1 := by
 have hc := code_rnum w g false T h.1
 rw [hp] at hc
 exact hc.mono fun e w1 hg => h.got hg
theorem RD.text {w : World} {B g b : Nat} {T r : Text} {o : Obj} (h : RD w B g T b o) (x : ByteArray) (hp : textP T = some (x, r)) :
 Calls Tryz.prog 74 #[.pointer (some ⟨g, 0, none⟩)] w fun e w1 => e = .returned (.string x) ∧ RD w1 B g r b o ∧ Below B w w1 := by
 have hc := code_rtext w g false T h.1
 rw [hp] at hc
 exact hc.mono fun e w1 hg => h.got hg
theorem RD.flag {w : World} {B g b : Nat} {T r : Text} {o : Obj} (h : RD w B g T b o) (x : Bool) (hp : flagP T = some (x, r)) :
 Calls Tryz.prog 101 #[.pointer (some ⟨g, 0, none⟩)] w fun e w1 => e = .returned (.bool x) ∧ RD w1 B g r b o ∧ Below B w w1 := by
 have hc := code_rflag w g false T h.1
 rw [hp] at hc
 exact hc.mono fun e w1 hg => h.got hg
theorem RD.drew {w : World} {B g b : Nat} {T : Text} {o : Obj} (h : RD w B g T b o) (hr : Rdr w.drew g false T) : RD w.drew B g T b o := ⟨hr, h.2.1, h.2.2.1, h.2.2.2⟩
end Go.Proofs.YtplghpamckdklaaGreat

namespace Go.Proofs.YtplghpamckdklaaGreat
open Go.RowKit
set_option maxRecDepth 100000
set_option linter.unusedSimpArgs false
set_option linter.unusedVariables false

theorem simpleT_is : simpleT = [1, 8, 1, 1, 97, 1, 0, 0, 2, 74, 56, 1, 2, 68, 69, 0, 0, 1, 1, 1, 2, 1, 1, 0, 0, 0, 2, 3, 232, 0, 0, 0] := by decide +kernel
theorem rd0 : numP [1, 8, 1, 1, 97, 1, 0, 0, 2, 74, 56, 1, 2, 68, 69, 0, 0, 1, 1, 1, 2, 1, 1, 0, 0, 0, 2, 3, 232, 0, 0, 0] = some (8, ([1, 1, 97, 1, 0, 0, 2, 74, 56, 1, 2, 68, 69, 0, 0, 1, 1, 1, 2, 1, 1, 0, 0, 0, 2, 3, 232, 0, 0, 0] : Text)) := numP_doc (n := 8) (T := [1, 8]) ([1, 1, 97, 1, 0, 0, 2, 74, 56, 1, 2, 68, 69, 0, 0, 1, 1, 1, 2, 1, 1, 0, 0, 0, 2, 3, 232, 0, 0, 0] : Text) (by decide +kernel) (by decide) (by decide)
theorem rd1 : textP [1, 1, 97, 1, 0, 0, 2, 74, 56, 1, 2, 68, 69, 0, 0, 1, 1, 1, 2, 1, 1, 0, 0, 0, 2, 3, 232, 0, 0, 0] = some (⟨#[97]⟩, ([1, 0, 0, 2, 74, 56, 1, 2, 68, 69, 0, 0, 1, 1, 1, 2, 1, 1, 0, 0, 0, 2, 3, 232, 0, 0, 0] : Text)) := textP_doc (s := ⟨#[97]⟩) (T := [1, 1, 97]) ([1, 0, 0, 2, 74, 56, 1, 2, 68, 69, 0, 0, 1, 1, 1, 2, 1, 1, 0, 0, 0, 2, 3, 232, 0, 0, 0] : Text) (by decide +kernel)
theorem rd2 : flagP [1, 0, 0, 2, 74, 56, 1, 2, 68, 69, 0, 0, 1, 1, 1, 2, 1, 1, 0, 0, 0, 2, 3, 232, 0, 0, 0] = some (true, ([0, 0, 2, 74, 56, 1, 2, 68, 69, 0, 0, 1, 1, 1, 2, 1, 1, 0, 0, 0, 2, 3, 232, 0, 0, 0] : Text)) := flagP_doc true ([0, 0, 2, 74, 56, 1, 2, 68, 69, 0, 0, 1, 1, 1, 2, 1, 1, 0, 0, 0, 2, 3, 232, 0, 0, 0] : Text)
theorem rd3 : flagP [0, 0, 2, 74, 56, 1, 2, 68, 69, 0, 0, 1, 1, 1, 2, 1, 1, 0, 0, 0, 2, 3, 232, 0, 0, 0] = some (false, ([0, 2, 74, 56, 1, 2, 68, 69, 0, 0, 1, 1, 1, 2, 1, 1, 0, 0, 0, 2, 3, 232, 0, 0, 0] : Text)) := flagP_doc false ([0, 2, 74, 56, 1, 2, 68, 69, 0, 0, 1, 1, 1, 2, 1, 1, 0, 0, 0, 2, 3, 232, 0, 0, 0] : Text)
theorem rd4 : textP [0, 2, 74, 56, 1, 2, 68, 69, 0, 0, 1, 1, 1, 2, 1, 1, 0, 0, 0, 2, 3, 232, 0, 0, 0] = some (⟨#[]⟩, ([2, 74, 56, 1, 2, 68, 69, 0, 0, 1, 1, 1, 2, 1, 1, 0, 0, 0, 2, 3, 232, 0, 0, 0] : Text)) := textP_doc (s := ⟨#[]⟩) (T := [0]) ([2, 74, 56, 1, 2, 68, 69, 0, 0, 1, 1, 1, 2, 1, 1, 0, 0, 0, 2, 3, 232, 0, 0, 0] : Text) (by decide +kernel)
theorem rd5 : numP [2, 74, 56, 1, 2, 68, 69, 0, 0, 1, 1, 1, 2, 1, 1, 0, 0, 0, 2, 3, 232, 0, 0, 0] = some (19000, ([1, 2, 68, 69, 0, 0, 1, 1, 1, 2, 1, 1, 0, 0, 0, 2, 3, 232, 0, 0, 0] : Text)) := numP_doc (n := 19000) (T := [2, 74, 56]) ([1, 2, 68, 69, 0, 0, 1, 1, 1, 2, 1, 1, 0, 0, 0, 2, 3, 232, 0, 0, 0] : Text) (by decide +kernel) (by decide) (by decide)
theorem rd6 : textP [1, 2, 68, 69, 0, 0, 1, 1, 1, 2, 1, 1, 0, 0, 0, 2, 3, 232, 0, 0, 0] = some (⟨#[68, 69]⟩, ([0, 0, 1, 1, 1, 2, 1, 1, 0, 0, 0, 2, 3, 232, 0, 0, 0] : Text)) := textP_doc (s := ⟨#[68, 69]⟩) (T := [1, 2, 68, 69]) ([0, 0, 1, 1, 1, 2, 1, 1, 0, 0, 0, 2, 3, 232, 0, 0, 0] : Text) (by decide +kernel)
theorem rd7 : textP [0, 0, 1, 1, 1, 2, 1, 1, 0, 0, 0, 2, 3, 232, 0, 0, 0] = some (⟨#[]⟩, ([0, 1, 1, 1, 2, 1, 1, 0, 0, 0, 2, 3, 232, 0, 0, 0] : Text)) := textP_doc (s := ⟨#[]⟩) (T := [0]) ([0, 1, 1, 1, 2, 1, 1, 0, 0, 0, 2, 3, 232, 0, 0, 0] : Text) (by decide +kernel)
theorem rd8 : textP [0, 1, 1, 1, 2, 1, 1, 0, 0, 0, 2, 3, 232, 0, 0, 0] = some (⟨#[]⟩, ([1, 1, 1, 2, 1, 1, 0, 0, 0, 2, 3, 232, 0, 0, 0] : Text)) := textP_doc (s := ⟨#[]⟩) (T := [0]) ([1, 1, 1, 2, 1, 1, 0, 0, 0, 2, 3, 232, 0, 0, 0] : Text) (by decide +kernel)
theorem rd9 : numP [1, 1, 1, 2, 1, 1, 0, 0, 0, 2, 3, 232, 0, 0, 0] = some (1, ([1, 2, 1, 1, 0, 0, 0, 2, 3, 232, 0, 0, 0] : Text)) := numP_doc (n := 1) (T := [1, 1]) ([1, 2, 1, 1, 0, 0, 0, 2, 3, 232, 0, 0, 0] : Text) (by decide +kernel) (by decide) (by decide)
theorem rd10 : numP [1, 2, 1, 1, 0, 0, 0, 2, 3, 232, 0, 0, 0] = some (2, ([1, 1, 0, 0, 0, 2, 3, 232, 0, 0, 0] : Text)) := numP_doc (n := 2) (T := [1, 2]) ([1, 1, 0, 0, 0, 2, 3, 232, 0, 0, 0] : Text) (by decide +kernel) (by decide) (by decide)
theorem rd11 : numP [1, 1, 0, 0, 0, 2, 3, 232, 0, 0, 0] = some (1, ([0, 0, 0, 2, 3, 232, 0, 0, 0] : Text)) := numP_doc (n := 1) (T := [1, 1]) ([0, 0, 0, 2, 3, 232, 0, 0, 0] : Text) (by decide +kernel) (by decide) (by decide)
theorem rd12 : textP [0, 0, 0, 2, 3, 232, 0, 0, 0] = some (⟨#[]⟩, ([0, 0, 2, 3, 232, 0, 0, 0] : Text)) := textP_doc (s := ⟨#[]⟩) (T := [0]) ([0, 0, 2, 3, 232, 0, 0, 0] : Text) (by decide +kernel)
theorem rd13 : textP [0, 0, 2, 3, 232, 0, 0, 0] = some (⟨#[]⟩, ([0, 2, 3, 232, 0, 0, 0] : Text)) := textP_doc (s := ⟨#[]⟩) (T := [0]) ([0, 2, 3, 232, 0, 0, 0] : Text) (by decide +kernel)
theorem rd14 : textP [0, 2, 3, 232, 0, 0, 0] = some (⟨#[]⟩, ([2, 3, 232, 0, 0, 0] : Text)) := textP_doc (s := ⟨#[]⟩) (T := [0]) ([2, 3, 232, 0, 0, 0] : Text) (by decide +kernel)
theorem rd15 : numP [2, 3, 232, 0, 0, 0] = some (1000, ([0, 0, 0] : Text)) := numP_doc (n := 1000) (T := [2, 3, 232]) ([0, 0, 0] : Text) (by decide +kernel) (by decide) (by decide)
theorem rd16 : flagP [0, 0, 0] = some (false, ([0, 0] : Text)) := flagP_doc false ([0, 0] : Text)
theorem rd17 : numP [0, 0] = some (0, ([0] : Text)) := numP_doc (n := 0) (T := [0]) ([0] : Text) (by decide +kernel) (by decide) (by decide)
theorem rd18 : flagP [0] = some (false, ([] : Text)) := flagP_doc false ([] : Text)
end Go.Proofs.YtplghpamckdklaaGreat

namespace Go.Proofs.YtplghpamckdklaaGreat
open Go.RowKit Go.ChangeShapes
set_option maxRecDepth 100000
set_option linter.unusedSimpArgs false
set_option linter.unusedVariables false

theorem rv0 : numV (false, ([1, 8, 1, 1, 97, 1, 0, 0, 2, 74, 56, 1, 2, 68, 69, 0, 0, 1, 1, 1, 2, 1, 1, 0, 0, 0, 2, 3, 232, 0, 0, 0] : Text)) = 8 := by unfold numV; rw [show ((false, ([1, 8, 1, 1, 97, 1, 0, 0, 2, 74, 56, 1, 2, 68, 69, 0, 0, 1, 1, 1, 2, 1, 1, 0, 0, 0, 2, 3, 232, 0, 0, 0] : Text)) : Bool × Text).2 = ([1, 8, 1, 1, 97, 1, 0, 0, 2, 74, 56, 1, 2, 68, 69, 0, 0, 1, 1, 1, 2, 1, 1, 0, 0, 0, 2, 3, 232, 0, 0, 0] : Text) from rfl, rd0]
theorem rs0 : numS (false, ([1, 8, 1, 1, 97, 1, 0, 0, 2, 74, 56, 1, 2, 68, 69, 0, 0, 1, 1, 1, 2, 1, 1, 0, 0, 0, 2, 3, 232, 0, 0, 0] : Text)) = (false, ([1, 1, 97, 1, 0, 0, 2, 74, 56, 1, 2, 68, 69, 0, 0, 1, 1, 1, 2, 1, 1, 0, 0, 0, 2, 3, 232, 0, 0, 0] : Text)) := by unfold numS; rw [show ((false, ([1, 8, 1, 1, 97, 1, 0, 0, 2, 74, 56, 1, 2, 68, 69, 0, 0, 1, 1, 1, 2, 1, 1, 0, 0, 0, 2, 3, 232, 0, 0, 0] : Text)) : Bool × Text).2 = ([1, 8, 1, 1, 97, 1, 0, 0, 2, 74, 56, 1, 2, 68, 69, 0, 0, 1, 1, 1, 2, 1, 1, 0, 0, 0, 2, 3, 232, 0, 0, 0] : Text) from rfl, rd0]
theorem rv1 : textV (false, ([1, 1, 97, 1, 0, 0, 2, 74, 56, 1, 2, 68, 69, 0, 0, 1, 1, 1, 2, 1, 1, 0, 0, 0, 2, 3, 232, 0, 0, 0] : Text)) = ⟨#[97]⟩ := by unfold textV; rw [show ((false, ([1, 1, 97, 1, 0, 0, 2, 74, 56, 1, 2, 68, 69, 0, 0, 1, 1, 1, 2, 1, 1, 0, 0, 0, 2, 3, 232, 0, 0, 0] : Text)) : Bool × Text).2 = ([1, 1, 97, 1, 0, 0, 2, 74, 56, 1, 2, 68, 69, 0, 0, 1, 1, 1, 2, 1, 1, 0, 0, 0, 2, 3, 232, 0, 0, 0] : Text) from rfl, rd1]
theorem rs1 : textS (false, ([1, 1, 97, 1, 0, 0, 2, 74, 56, 1, 2, 68, 69, 0, 0, 1, 1, 1, 2, 1, 1, 0, 0, 0, 2, 3, 232, 0, 0, 0] : Text)) = (false, ([1, 0, 0, 2, 74, 56, 1, 2, 68, 69, 0, 0, 1, 1, 1, 2, 1, 1, 0, 0, 0, 2, 3, 232, 0, 0, 0] : Text)) := by unfold textS; rw [show ((false, ([1, 1, 97, 1, 0, 0, 2, 74, 56, 1, 2, 68, 69, 0, 0, 1, 1, 1, 2, 1, 1, 0, 0, 0, 2, 3, 232, 0, 0, 0] : Text)) : Bool × Text).2 = ([1, 1, 97, 1, 0, 0, 2, 74, 56, 1, 2, 68, 69, 0, 0, 1, 1, 1, 2, 1, 1, 0, 0, 0, 2, 3, 232, 0, 0, 0] : Text) from rfl, rd1]
theorem rv2 : flagV (false, ([1, 0, 0, 2, 74, 56, 1, 2, 68, 69, 0, 0, 1, 1, 1, 2, 1, 1, 0, 0, 0, 2, 3, 232, 0, 0, 0] : Text)) = true := by unfold flagV; rw [show ((false, ([1, 0, 0, 2, 74, 56, 1, 2, 68, 69, 0, 0, 1, 1, 1, 2, 1, 1, 0, 0, 0, 2, 3, 232, 0, 0, 0] : Text)) : Bool × Text).2 = ([1, 0, 0, 2, 74, 56, 1, 2, 68, 69, 0, 0, 1, 1, 1, 2, 1, 1, 0, 0, 0, 2, 3, 232, 0, 0, 0] : Text) from rfl, rd2]
theorem rs2 : flagS (false, ([1, 0, 0, 2, 74, 56, 1, 2, 68, 69, 0, 0, 1, 1, 1, 2, 1, 1, 0, 0, 0, 2, 3, 232, 0, 0, 0] : Text)) = (false, ([0, 0, 2, 74, 56, 1, 2, 68, 69, 0, 0, 1, 1, 1, 2, 1, 1, 0, 0, 0, 2, 3, 232, 0, 0, 0] : Text)) := by unfold flagS; rw [show ((false, ([1, 0, 0, 2, 74, 56, 1, 2, 68, 69, 0, 0, 1, 1, 1, 2, 1, 1, 0, 0, 0, 2, 3, 232, 0, 0, 0] : Text)) : Bool × Text).2 = ([1, 0, 0, 2, 74, 56, 1, 2, 68, 69, 0, 0, 1, 1, 1, 2, 1, 1, 0, 0, 0, 2, 3, 232, 0, 0, 0] : Text) from rfl, rd2]
theorem rv3 : flagV (false, ([0, 0, 2, 74, 56, 1, 2, 68, 69, 0, 0, 1, 1, 1, 2, 1, 1, 0, 0, 0, 2, 3, 232, 0, 0, 0] : Text)) = false := by unfold flagV; rw [show ((false, ([0, 0, 2, 74, 56, 1, 2, 68, 69, 0, 0, 1, 1, 1, 2, 1, 1, 0, 0, 0, 2, 3, 232, 0, 0, 0] : Text)) : Bool × Text).2 = ([0, 0, 2, 74, 56, 1, 2, 68, 69, 0, 0, 1, 1, 1, 2, 1, 1, 0, 0, 0, 2, 3, 232, 0, 0, 0] : Text) from rfl, rd3]
theorem rs3 : flagS (false, ([0, 0, 2, 74, 56, 1, 2, 68, 69, 0, 0, 1, 1, 1, 2, 1, 1, 0, 0, 0, 2, 3, 232, 0, 0, 0] : Text)) = (false, ([0, 2, 74, 56, 1, 2, 68, 69, 0, 0, 1, 1, 1, 2, 1, 1, 0, 0, 0, 2, 3, 232, 0, 0, 0] : Text)) := by unfold flagS; rw [show ((false, ([0, 0, 2, 74, 56, 1, 2, 68, 69, 0, 0, 1, 1, 1, 2, 1, 1, 0, 0, 0, 2, 3, 232, 0, 0, 0] : Text)) : Bool × Text).2 = ([0, 0, 2, 74, 56, 1, 2, 68, 69, 0, 0, 1, 1, 1, 2, 1, 1, 0, 0, 0, 2, 3, 232, 0, 0, 0] : Text) from rfl, rd3]
theorem rv4 : textV (false, ([0, 2, 74, 56, 1, 2, 68, 69, 0, 0, 1, 1, 1, 2, 1, 1, 0, 0, 0, 2, 3, 232, 0, 0, 0] : Text)) = ⟨#[]⟩ := by unfold textV; rw [show ((false, ([0, 2, 74, 56, 1, 2, 68, 69, 0, 0, 1, 1, 1, 2, 1, 1, 0, 0, 0, 2, 3, 232, 0, 0, 0] : Text)) : Bool × Text).2 = ([0, 2, 74, 56, 1, 2, 68, 69, 0, 0, 1, 1, 1, 2, 1, 1, 0, 0, 0, 2, 3, 232, 0, 0, 0] : Text) from rfl, rd4]
theorem rs4 : textS (false, ([0, 2, 74, 56, 1, 2, 68, 69, 0, 0, 1, 1, 1, 2, 1, 1, 0, 0, 0, 2, 3, 232, 0, 0, 0] : Text)) = (false, ([2, 74, 56, 1, 2, 68, 69, 0, 0, 1, 1, 1, 2, 1, 1, 0, 0, 0, 2, 3, 232, 0, 0, 0] : Text)) := by unfold textS; rw [show ((false, ([0, 2, 74, 56, 1, 2, 68, 69, 0, 0, 1, 1, 1, 2, 1, 1, 0, 0, 0, 2, 3, 232, 0, 0, 0] : Text)) : Bool × Text).2 = ([0, 2, 74, 56, 1, 2, 68, 69, 0, 0, 1, 1, 1, 2, 1, 1, 0, 0, 0, 2, 3, 232, 0, 0, 0] : Text) from rfl, rd4]
theorem rv5 : numV (false, ([2, 74, 56, 1, 2, 68, 69, 0, 0, 1, 1, 1, 2, 1, 1, 0, 0, 0, 2, 3, 232, 0, 0, 0] : Text)) = 19000 := by unfold numV; rw [show ((false, ([2, 74, 56, 1, 2, 68, 69, 0, 0, 1, 1, 1, 2, 1, 1, 0, 0, 0, 2, 3, 232, 0, 0, 0] : Text)) : Bool × Text).2 = ([2, 74, 56, 1, 2, 68, 69, 0, 0, 1, 1, 1, 2, 1, 1, 0, 0, 0, 2, 3, 232, 0, 0, 0] : Text) from rfl, rd5]
theorem rs5 : numS (false, ([2, 74, 56, 1, 2, 68, 69, 0, 0, 1, 1, 1, 2, 1, 1, 0, 0, 0, 2, 3, 232, 0, 0, 0] : Text)) = (false, ([1, 2, 68, 69, 0, 0, 1, 1, 1, 2, 1, 1, 0, 0, 0, 2, 3, 232, 0, 0, 0] : Text)) := by unfold numS; rw [show ((false, ([2, 74, 56, 1, 2, 68, 69, 0, 0, 1, 1, 1, 2, 1, 1, 0, 0, 0, 2, 3, 232, 0, 0, 0] : Text)) : Bool × Text).2 = ([2, 74, 56, 1, 2, 68, 69, 0, 0, 1, 1, 1, 2, 1, 1, 0, 0, 0, 2, 3, 232, 0, 0, 0] : Text) from rfl, rd5]
theorem rv6 : textV (false, ([1, 2, 68, 69, 0, 0, 1, 1, 1, 2, 1, 1, 0, 0, 0, 2, 3, 232, 0, 0, 0] : Text)) = ⟨#[68, 69]⟩ := by unfold textV; rw [show ((false, ([1, 2, 68, 69, 0, 0, 1, 1, 1, 2, 1, 1, 0, 0, 0, 2, 3, 232, 0, 0, 0] : Text)) : Bool × Text).2 = ([1, 2, 68, 69, 0, 0, 1, 1, 1, 2, 1, 1, 0, 0, 0, 2, 3, 232, 0, 0, 0] : Text) from rfl, rd6]
theorem rs6 : textS (false, ([1, 2, 68, 69, 0, 0, 1, 1, 1, 2, 1, 1, 0, 0, 0, 2, 3, 232, 0, 0, 0] : Text)) = (false, ([0, 0, 1, 1, 1, 2, 1, 1, 0, 0, 0, 2, 3, 232, 0, 0, 0] : Text)) := by unfold textS; rw [show ((false, ([1, 2, 68, 69, 0, 0, 1, 1, 1, 2, 1, 1, 0, 0, 0, 2, 3, 232, 0, 0, 0] : Text)) : Bool × Text).2 = ([1, 2, 68, 69, 0, 0, 1, 1, 1, 2, 1, 1, 0, 0, 0, 2, 3, 232, 0, 0, 0] : Text) from rfl, rd6]
theorem rv7 : textV (false, ([0, 0, 1, 1, 1, 2, 1, 1, 0, 0, 0, 2, 3, 232, 0, 0, 0] : Text)) = ⟨#[]⟩ := by unfold textV; rw [show ((false, ([0, 0, 1, 1, 1, 2, 1, 1, 0, 0, 0, 2, 3, 232, 0, 0, 0] : Text)) : Bool × Text).2 = ([0, 0, 1, 1, 1, 2, 1, 1, 0, 0, 0, 2, 3, 232, 0, 0, 0] : Text) from rfl, rd7]
theorem rs7 : textS (false, ([0, 0, 1, 1, 1, 2, 1, 1, 0, 0, 0, 2, 3, 232, 0, 0, 0] : Text)) = (false, ([0, 1, 1, 1, 2, 1, 1, 0, 0, 0, 2, 3, 232, 0, 0, 0] : Text)) := by unfold textS; rw [show ((false, ([0, 0, 1, 1, 1, 2, 1, 1, 0, 0, 0, 2, 3, 232, 0, 0, 0] : Text)) : Bool × Text).2 = ([0, 0, 1, 1, 1, 2, 1, 1, 0, 0, 0, 2, 3, 232, 0, 0, 0] : Text) from rfl, rd7]
theorem rv8 : textV (false, ([0, 1, 1, 1, 2, 1, 1, 0, 0, 0, 2, 3, 232, 0, 0, 0] : Text)) = ⟨#[]⟩ := by unfold textV; rw [show ((false, ([0, 1, 1, 1, 2, 1, 1, 0, 0, 0, 2, 3, 232, 0, 0, 0] : Text)) : Bool × Text).2 = ([0, 1, 1, 1, 2, 1, 1, 0, 0, 0, 2, 3, 232, 0, 0, 0] : Text) from rfl, rd8]
theorem rs8 : textS (false, ([0, 1, 1, 1, 2, 1, 1, 0, 0, 0, 2, 3, 232, 0, 0, 0] : Text)) = (false, ([1, 1, 1, 2, 1, 1, 0, 0, 0, 2, 3, 232, 0, 0, 0] : Text)) := by unfold textS; rw [show ((false, ([0, 1, 1, 1, 2, 1, 1, 0, 0, 0, 2, 3, 232, 0, 0, 0] : Text)) : Bool × Text).2 = ([0, 1, 1, 1, 2, 1, 1, 0, 0, 0, 2, 3, 232, 0, 0, 0] : Text) from rfl, rd8]
theorem rv9 : numV (false, ([1, 1, 1, 2, 1, 1, 0, 0, 0, 2, 3, 232, 0, 0, 0] : Text)) = 1 := by unfold numV; rw [show ((false, ([1, 1, 1, 2, 1, 1, 0, 0, 0, 2, 3, 232, 0, 0, 0] : Text)) : Bool × Text).2 = ([1, 1, 1, 2, 1, 1, 0, 0, 0, 2, 3, 232, 0, 0, 0] : Text) from rfl, rd9]
theorem rs9 : numS (false, ([1, 1, 1, 2, 1, 1, 0, 0, 0, 2, 3, 232, 0, 0, 0] : Text)) = (false, ([1, 2, 1, 1, 0, 0, 0, 2, 3, 232, 0, 0, 0] : Text)) := by unfold numS; rw [show ((false, ([1, 1, 1, 2, 1, 1, 0, 0, 0, 2, 3, 232, 0, 0, 0] : Text)) : Bool × Text).2 = ([1, 1, 1, 2, 1, 1, 0, 0, 0, 2, 3, 232, 0, 0, 0] : Text) from rfl, rd9]
theorem rv10 : numV (false, ([1, 2, 1, 1, 0, 0, 0, 2, 3, 232, 0, 0, 0] : Text)) = 2 := by unfold numV; rw [show ((false, ([1, 2, 1, 1, 0, 0, 0, 2, 3, 232, 0, 0, 0] : Text)) : Bool × Text).2 = ([1, 2, 1, 1, 0, 0, 0, 2, 3, 232, 0, 0, 0] : Text) from rfl, rd10]
theorem rs10 : numS (false, ([1, 2, 1, 1, 0, 0, 0, 2, 3, 232, 0, 0, 0] : Text)) = (false, ([1, 1, 0, 0, 0, 2, 3, 232, 0, 0, 0] : Text)) := by unfold numS; rw [show ((false, ([1, 2, 1, 1, 0, 0, 0, 2, 3, 232, 0, 0, 0] : Text)) : Bool × Text).2 = ([1, 2, 1, 1, 0, 0, 0, 2, 3, 232, 0, 0, 0] : Text) from rfl, rd10]
theorem rv11 : numV (false, ([1, 1, 0, 0, 0, 2, 3, 232, 0, 0, 0] : Text)) = 1 := by unfold numV; rw [show ((false, ([1, 1, 0, 0, 0, 2, 3, 232, 0, 0, 0] : Text)) : Bool × Text).2 = ([1, 1, 0, 0, 0, 2, 3, 232, 0, 0, 0] : Text) from rfl, rd11]
theorem rs11 : numS (false, ([1, 1, 0, 0, 0, 2, 3, 232, 0, 0, 0] : Text)) = (false, ([0, 0, 0, 2, 3, 232, 0, 0, 0] : Text)) := by unfold numS; rw [show ((false, ([1, 1, 0, 0, 0, 2, 3, 232, 0, 0, 0] : Text)) : Bool × Text).2 = ([1, 1, 0, 0, 0, 2, 3, 232, 0, 0, 0] : Text) from rfl, rd11]
theorem rv12 : textV (false, ([0, 0, 0, 2, 3, 232, 0, 0, 0] : Text)) = ⟨#[]⟩ := by unfold textV; rw [show ((false, ([0, 0, 0, 2, 3, 232, 0, 0, 0] : Text)) : Bool × Text).2 = ([0, 0, 0, 2, 3, 232, 0, 0, 0] : Text) from rfl, rd12]
theorem rs12 : textS (false, ([0, 0, 0, 2, 3, 232, 0, 0, 0] : Text)) = (false, ([0, 0, 2, 3, 232, 0, 0, 0] : Text)) := by unfold textS; rw [show ((false, ([0, 0, 0, 2, 3, 232, 0, 0, 0] : Text)) : Bool × Text).2 = ([0, 0, 0, 2, 3, 232, 0, 0, 0] : Text) from rfl, rd12]
theorem rv13 : textV (false, ([0, 0, 2, 3, 232, 0, 0, 0] : Text)) = ⟨#[]⟩ := by unfold textV; rw [show ((false, ([0, 0, 2, 3, 232, 0, 0, 0] : Text)) : Bool × Text).2 = ([0, 0, 2, 3, 232, 0, 0, 0] : Text) from rfl, rd13]
theorem rs13 : textS (false, ([0, 0, 2, 3, 232, 0, 0, 0] : Text)) = (false, ([0, 2, 3, 232, 0, 0, 0] : Text)) := by unfold textS; rw [show ((false, ([0, 0, 2, 3, 232, 0, 0, 0] : Text)) : Bool × Text).2 = ([0, 0, 2, 3, 232, 0, 0, 0] : Text) from rfl, rd13]
theorem rv14 : textV (false, ([0, 2, 3, 232, 0, 0, 0] : Text)) = ⟨#[]⟩ := by unfold textV; rw [show ((false, ([0, 2, 3, 232, 0, 0, 0] : Text)) : Bool × Text).2 = ([0, 2, 3, 232, 0, 0, 0] : Text) from rfl, rd14]
theorem rs14 : textS (false, ([0, 2, 3, 232, 0, 0, 0] : Text)) = (false, ([2, 3, 232, 0, 0, 0] : Text)) := by unfold textS; rw [show ((false, ([0, 2, 3, 232, 0, 0, 0] : Text)) : Bool × Text).2 = ([0, 2, 3, 232, 0, 0, 0] : Text) from rfl, rd14]
theorem rv15 : numV (false, ([2, 3, 232, 0, 0, 0] : Text)) = 1000 := by unfold numV; rw [show ((false, ([2, 3, 232, 0, 0, 0] : Text)) : Bool × Text).2 = ([2, 3, 232, 0, 0, 0] : Text) from rfl, rd15]
theorem rs15 : numS (false, ([2, 3, 232, 0, 0, 0] : Text)) = (false, ([0, 0, 0] : Text)) := by unfold numS; rw [show ((false, ([2, 3, 232, 0, 0, 0] : Text)) : Bool × Text).2 = ([2, 3, 232, 0, 0, 0] : Text) from rfl, rd15]
theorem rv16 : flagV (false, ([0, 0, 0] : Text)) = false := by unfold flagV; rw [show ((false, ([0, 0, 0] : Text)) : Bool × Text).2 = ([0, 0, 0] : Text) from rfl, rd16]
theorem rs16 : flagS (false, ([0, 0, 0] : Text)) = (false, ([0, 0] : Text)) := by unfold flagS; rw [show ((false, ([0, 0, 0] : Text)) : Bool × Text).2 = ([0, 0, 0] : Text) from rfl, rd16]
theorem rv17 : numV (false, ([0, 0] : Text)) = 0 := by unfold numV; rw [show ((false, ([0, 0] : Text)) : Bool × Text).2 = ([0, 0] : Text) from rfl, rd17]
theorem rs17 : numS (false, ([0, 0] : Text)) = (false, ([0] : Text)) := by unfold numS; rw [show ((false, ([0, 0] : Text)) : Bool × Text).2 = ([0, 0] : Text) from rfl, rd17]
theorem rv18 : flagV (false, ([0] : Text)) = false := by unfold flagV; rw [show ((false, ([0] : Text)) : Bool × Text).2 = ([0] : Text) from rfl, rd18]
theorem rs18 : flagS (false, ([0] : Text)) = (false, ([] : Text)) := by unfold flagS; rw [show ((false, ([0] : Text)) : Bool × Text).2 = ([0] : Text) from rfl, rd18]
theorem simple_read : docR (numS (false, simpleT)) = ((⟨#[97]⟩, true, false, ⟨#[]⟩, 19000, ⟨#[68, 69]⟩, ⟨#[]⟩, ⟨#[]⟩), [simpleL], (false, [])) := by
 rw [simpleT_is, rs0]
 have hH : headS (false, ([1, 1, 97, 1, 0, 0, 2, 74, 56, 1, 2, 68, 69, 0, 0, 1, 1, 1, 2, 1, 1, 0, 0, 0, 2, 3, 232, 0, 0, 0] : Text)) = (false, ([1, 1, 1, 2, 1, 1, 0, 0, 0, 2, 3, 232, 0, 0, 0] : Text)) := by simp only [headS, rs1, rs2, rs3, rs4, rs5, rs6, rs7, rs8]
 have hV : headV (false, ([1, 1, 97, 1, 0, 0, 2, 74, 56, 1, 2, 68, 69, 0, 0, 1, 1, 1, 2, 1, 1, 0, 0, 0, 2, 3, 232, 0, 0, 0] : Text)) = (⟨#[97]⟩, true, false, ⟨#[]⟩, 19000, ⟨#[68, 69]⟩, ⟨#[]⟩, ⟨#[]⟩) := by simp only [headV, rs1, rs2, rs3, rs4, rs5, rs6, rs7, rs8, rv1, rv2, rv3, rv4, rv5, rv6, rv7, rv8]
 have hL : linesR 1 (false, ([1, 2, 1, 1, 0, 0, 0, 2, 3, 232, 0, 0, 0] : Text)) = ([simpleL], (false, [])) := by
  simp only [linesR, lineV, lineS, rs10, rs11, rs12, rs13, rs14, rs15, rs16, rs17, rs18, rv10, rv11, rv12, rv13, rv14, rv15, rv16, rv17, rv18]
  rfl
 unfold docR
 rw [hH, rv9, rs9, hV, if_neg (by decide)]
 show (_, (linesR 1 _).1, (linesR 1 _).2) = _
 rw [hL]
theorem simple_kind : numV (false, simpleT) = 8 := by rw [simpleT_is, rv0]
def simpleCs (A : Option Addr) (c : Nat) : Array Value := #[.int .i64 8, .string ⟨#[]⟩, .string ⟨#[]⟩, .int .i64 0, .int .i64 0, .int .i64 0, .int .i64 0, .int .i64 0, .int .i64 0, .int .i64 0, .int .i64 0, .int .i64 0, .int .i64 0, .string ⟨#[97]⟩, .bool true, .bool false, .string ⟨#[]⟩, .int .i64 19000, .string ⟨#[68, 69]⟩, .string ⟨#[]⟩, .string ⟨#[]⟩, .slice A 1 c]
theorem simpleCs_ok (A : Option Addr) (c : Nat) : (simpleCs A c).size = 22 ∧ (simpleCs A c).all (·.oneCell') = true := ⟨rfl, by simp [simpleCs, Value.oneCell']⟩
theorem decode_simple (A0 : Option Addr) (cap : Nat) (w : World) (hT : Txt w A0 simpleT) (hA : A0 = none → simpleT = []) :
 Calls Tryz.prog 16 #[.slice A0 simpleT.length cap] w fun e w1 => DecYes w simpleCs [simpleL] e w1 := by
 refine decode_yes simpleT A0 cap simpleCs [simpleL] (false, []) w (by rw [simpleT_is]; decide) hT hA (Lib.hid fun W g _ hr => ?_) (Lib.hid fun A c => simpleCs_ok A c) rfl (Lib.hid fun W A c _ hr h1 h2 h3 => ?_)
 · refine (read_8 g (false, simpleT) W hr simple_kind).mono fun e w1 h => ?_
   rw [simple_read] at h
   obtain ⟨A, c, he, ho, hs⟩ := h
   exact ⟨A, c, he, ho, hs⟩
 · cases A with
   | none => exact absurd (h1 rfl).1 (by simp)
   | some A => exact good_simple A c W hr h2 h3
end Go.Proofs.YtplghpamckdklaaGreat
