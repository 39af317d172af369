/- Two steps of a walk through a statement whose order is open: one operation taken first; one call that comes up alone. Regions that draw their order: two or three that may come up next. -/
import Derived.Deep.RegionHeld3
import Derived.Test.YtpapcnogbmjpjaaGreatDoorK1
namespace Go.Proofs.YtpapcnogbmjpjaaGreatDoor
set_option maxRecDepth 100000

section
variable {P : Program} {ops : Array Oper} {Q : Exit → Act → World → Prop} {md : Region.Mode} {S : World → Prop}

/-- an operation that yields in every world that meets S, or is not wanted, is taken first -/
theorem takeH {i : Nat} {dst : Option Tmp} {op : Op} {ty : TypeId} {pos : String} {after : Array Edge} {guard : Option (Nat × Bool)} {v : Value} {fuel : Nat} {listed : Array Bool} {a : Act} {w : World}
    (hi : ops[i]? = some { dst := dst, op := op, type := ty, pos := pos, after := after, guard := guard })
    (hs : Region.noSelect ops = true) (hf : Region.free md ops listed i = true) (hr : (Region.ready md ops listed).contains i = true)
    (hQ : ∀ c a w, Q (.panic c) (a.put dst v) w → Q (.panic c) a w)
    (hy : YieldsIf P ops S { dst := dst, op := op, type := ty, pos := pos, after := after, guard := guard } v a) (hS : S w)
    (h : wpAnyH P md ops Q S fuel (listed.setIfInBounds i true) (a.put dst v) w) : wpAnyH P md ops Q S (fuel + 1) listed a w :=
  wpAnyH_take hi hs hf hr hQ hy hS h

theorem takeP {i : Nat} {dst : Option Tmp} {op : Op} {ty : TypeId} {pos : String} {after : Array Edge} {guard : Option (Nat × Bool)} {fuel : Nat} {listed : Array Bool} {a : Act} {w : World} (v : Value)
    (hi : ops[i]? = some { dst := dst, op := op, type := ty, pos := pos, after := after, guard := guard })
    (hy : YieldsIf P ops S { dst := dst, op := op, type := ty, pos := pos, after := after, guard := guard } v a)
    (h : wpAnyH P md ops Q S fuel (listed.setIfInBounds i true) (a.put dst v) w)
    (hs : Region.noSelect ops = true := by kernel_rfl) (hf : Region.free md ops listed i = true := by kernel_rfl) (hr : (Region.ready md ops listed).contains i = true := by kernel_rfl)
    (hQ : ∀ c a w, Q (.panic c) (a.put dst v) w → Q (.panic c) a w := by exact fun _ _ _ h => h) (hS : S w := by assumption) : wpAnyH P md ops Q S (fuel + 1) listed a w :=
  takeH hi hs hf hr hQ hy hS h
theorem pA {α : Type} (l : List α) (i : Nat) (a : α) : l.toArray.setIfInBounds i a = (l.set i a).toArray := List.setIfInBounds_toArray ..
theorem pB {α : Type} {x b : α} {xs : List α} : (x :: xs).set 0 b = b :: xs := List.set_cons_zero
theorem pC {α : Type} {x b : α} {xs : List α} {n : Nat} : (x :: xs).set (n + 1) b = x :: xs.set n b := List.set_cons_succ
/-- a call that comes up alone -/
theorem aloneH {i : Nat} {dst : Option Tmp} {op : Op} {ty : TypeId} {pos : String} {after : Array Edge} {guard : Option (Nat × Bool)} {fuel : Nat} {listed : Array Bool} {a : Act} {w : World}
    (hi : ops[i]? = some { dst := dst, op := op, type := ty, pos := pos, after := after, guard := guard })
    (hr : Region.ready md ops listed = [i])
    (h : ∀ K' : Act → World → Prop, Shut (∀ a w, S w → (S w → wpAnyH P md ops Q S fuel (listed.setIfInBounds i true) a w) → K' a w) →
      if Region.wanted { dst := dst, op := op, type := ty, pos := pos, after := after, guard := guard } (yielded ops a.tmps) = true then
        Oper.wp P { dst := dst, op := op, type := ty, pos := pos, after := after, guard := guard } a w K' Q else K' (a.put dst undef) w) :
    wpAnyH P md ops Q S (fuel + 1) listed a w :=
  wpAnyH_ready hr (by simp) (AllReadyH.cons hi h AllReadyH.nil)
/-- what is held may be said more strongly from here on -/
theorem wpAnyH_imp {S' : World → Prop} (himp : ∀ w, S' w → S w) : ∀ (fuel : Nat) (listed : Array Bool) (a : Act) (w : World), wpAnyH P md ops Q S' fuel listed a w → wpAnyH P md ops Q S fuel listed a w
  | 0, _, _, _, h => h
  | fuel + 1, _, _, _, h => ⟨h.1, fun i hi => wpOp_mono (fun a' w' h' => ⟨himp w' h'.1, wpAnyH_imp himp fuel _ a' w' h'.2⟩) (h.2 i hi)⟩
end
end Go.Proofs.YtpapcnogbmjpjaaGreatDoor

namespace Go.Proofs.YtpapcnogbmjpjaaGreatDoor
open Go.RowKit
set_option maxRecDepth 100000

section
variable {P : Program} {ops : Array Oper} {Q : Exit → Act → World → Prop} {md : Region.Mode} {S : World → Prop}

/-- two that may come up next -/
theorem twoH {i : Nat} {dst : Option Tmp} {op : Op} {ty : TypeId} {pos : String} {after : Array Edge} {guard : Option (Nat × Bool)}
    {i2 : Nat} {dst2 : Option Tmp} {op2 : Op} {ty2 : TypeId} {pos2 : String} {after2 : Array Edge} {guard2 : Option (Nat × Bool)} {fuel : Nat} {listed : Array Bool} {a : Act} {w : World}
    (hi : ops[i]? = some { dst := dst, op := op, type := ty, pos := pos, after := after, guard := guard })
    (hi2 : ops[i2]? = some { dst := dst2, op := op2, type := ty2, pos := pos2, after := after2, guard := guard2 })
    (hr : Region.ready md ops listed = [i, i2])
    (h : ∀ K' : Act → World → Prop, Shut (∀ a w, S w → (S w → wpAnyH P md ops Q S fuel (listed.setIfInBounds i true) a w) → K' a w) →
      if Region.wanted { dst := dst, op := op, type := ty, pos := pos, after := after, guard := guard } (yielded ops a.tmps) = true then
        Oper.wp P { dst := dst, op := op, type := ty, pos := pos, after := after, guard := guard } a w K' Q else K' (a.put dst undef) w)
    (h2 : ∀ K' : Act → World → Prop, Shut (∀ a w, S w → (S w → wpAnyH P md ops Q S fuel (listed.setIfInBounds i2 true) a w) → K' a w) →
      if Region.wanted { dst := dst2, op := op2, type := ty2, pos := pos2, after := after2, guard := guard2 } (yielded ops a.tmps) = true then
        Oper.wp P { dst := dst2, op := op2, type := ty2, pos := pos2, after := after2, guard := guard2 } a w K' Q else K' (a.put dst2 undef) w) :
    wpAnyH P md ops Q S (fuel + 1) listed a w :=
  wpAnyH_ready hr (by simp) (AllReadyH.cons hi h (AllReadyH.cons hi2 h2 AllReadyH.nil))
/-- three that may come up next -/
theorem threeH {i : Nat} {dst : Option Tmp} {op : Op} {ty : TypeId} {pos : String} {after : Array Edge} {guard : Option (Nat × Bool)}
    {i2 : Nat} {dst2 : Option Tmp} {op2 : Op} {ty2 : TypeId} {pos2 : String} {after2 : Array Edge} {guard2 : Option (Nat × Bool)}
    {i3 : Nat} {dst3 : Option Tmp} {op3 : Op} {ty3 : TypeId} {pos3 : String} {after3 : Array Edge} {guard3 : Option (Nat × Bool)} {fuel : Nat} {listed : Array Bool} {a : Act} {w : World}
    (hi : ops[i]? = some { dst := dst, op := op, type := ty, pos := pos, after := after, guard := guard })
    (hi2 : ops[i2]? = some { dst := dst2, op := op2, type := ty2, pos := pos2, after := after2, guard := guard2 })
    (hi3 : ops[i3]? = some { dst := dst3, op := op3, type := ty3, pos := pos3, after := after3, guard := guard3 })
    (hr : Region.ready md ops listed = [i, i2, i3])
    (h : ∀ K' : Act → World → Prop, Shut (∀ a w, S w → (S w → wpAnyH P md ops Q S fuel (listed.setIfInBounds i true) a w) → K' a w) →
      if Region.wanted { dst := dst, op := op, type := ty, pos := pos, after := after, guard := guard } (yielded ops a.tmps) = true then
        Oper.wp P { dst := dst, op := op, type := ty, pos := pos, after := after, guard := guard } a w K' Q else K' (a.put dst undef) w)
    (h2 : ∀ K' : Act → World → Prop, Shut (∀ a w, S w → (S w → wpAnyH P md ops Q S fuel (listed.setIfInBounds i2 true) a w) → K' a w) →
      if Region.wanted { dst := dst2, op := op2, type := ty2, pos := pos2, after := after2, guard := guard2 } (yielded ops a.tmps) = true then
        Oper.wp P { dst := dst2, op := op2, type := ty2, pos := pos2, after := after2, guard := guard2 } a w K' Q else K' (a.put dst2 undef) w)
    (h3 : ∀ K' : Act → World → Prop, Shut (∀ a w, S w → (S w → wpAnyH P md ops Q S fuel (listed.setIfInBounds i3 true) a w) → K' a w) →
      if Region.wanted { dst := dst3, op := op3, type := ty3, pos := pos3, after := after3, guard := guard3 } (yielded ops a.tmps) = true then
        Oper.wp P { dst := dst3, op := op3, type := ty3, pos := pos3, after := after3, guard := guard3 } a w K' Q else K' (a.put dst3 undef) w) :
    wpAnyH P md ops Q S (fuel + 1) listed a w :=
  wpAnyH_ready hr (by simp) (AllReadyH.cons hi h (AllReadyH.cons hi2 h2 (AllReadyH.cons hi3 h3 AllReadyH.nil)))
end

end Go.Proofs.YtpapcnogbmjpjaaGreatDoor
