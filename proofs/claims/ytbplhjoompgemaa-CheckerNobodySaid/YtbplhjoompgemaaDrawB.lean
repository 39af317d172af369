/- Regions that draw their order: two or three that may come up next. -/
import Derived.Test.YtbplhjoompgemaaRegion
import Derived.Test.YtbplhjoompgemaaBase
namespace Go.Proofs.Ytbplhjoompgemaa
open Go.RowKit
set_option maxRecDepth 100000

section
variable {P : Program} {ops : Array Oper} {Q : Exit → Act → World → Prop} {md : Region.Mode} {S : World → Prop}

/-- two that may come up next -/
theorem twoH {i : Nat} {dst : Option Tmp} {op : Op} {ty : TypeId} {pos : String} {after : Array Edge} {guard : Option (Nat × Bool)}
    {i2 : Nat} {dst2 : Option Tmp} {op2 : Op} {ty2 : TypeId} {pos2 : String} {after2 : Array Edge} {guard2 : Option (Nat × Bool)} {fuel : Nat} {listed : Array Bool} {a : Act} {w : World}
    (hi : ops[i]? = some { dst := dst, op := op, type := ty, pos := pos, after := after, guard := guard })
    (hi2 : ops[i2]? = some { dst := dst2, op := op2, type := ty2, pos := pos2, after := after2, guard := guard2 })
    (hr : Region.ready md ops listed = [i, i2])
    (h : ∀ K' : Act → World → Prop, Shut (∀ a w, S w → (S w → wpAnyH P md ops Q S fuel (listed.setIfInBounds i true) a w) → K' a w) →
      if Region.wanted { dst := dst, op := op, type := ty, pos := pos, after := after, guard := guard } (yielded ops a.tmps) = true then
        Oper.wp P { dst := dst, op := op, type := ty, pos := pos, after := after, guard := guard } a w K' Q else K' (a.put dst undef) w)
    (h2 : ∀ K' : Act → World → Prop, Shut (∀ a w, S w → (S w → wpAnyH P md ops Q S fuel (listed.setIfInBounds i2 true) a w) → K' a w) →
      if Region.wanted { dst := dst2, op := op2, type := ty2, pos := pos2, after := after2, guard := guard2 } (yielded ops a.tmps) = true then
        Oper.wp P { dst := dst2, op := op2, type := ty2, pos := pos2, after := after2, guard := guard2 } a w K' Q else K' (a.put dst2 undef) w) :
    wpAnyH P md ops Q S (fuel + 1) listed a w :=
  wpAnyH_ready hr (by simp) (AllReadyH.cons hi h (AllReadyH.cons hi2 h2 AllReadyH.nil))
/-- three that may come up next -/
theorem threeH {i : Nat} {dst : Option Tmp} {op : Op} {ty : TypeId} {pos : String} {after : Array Edge} {guard : Option (Nat × Bool)}
    {i2 : Nat} {dst2 : Option Tmp} {op2 : Op} {ty2 : TypeId} {pos2 : String} {after2 : Array Edge} {guard2 : Option (Nat × Bool)}
    {i3 : Nat} {dst3 : Option Tmp} {op3 : Op} {ty3 : TypeId} {pos3 : String} {after3 : Array Edge} {guard3 : Option (Nat × Bool)} {fuel : Nat} {listed : Array Bool} {a : Act} {w : World}
    (hi : ops[i]? = some { dst := dst, op := op, type := ty, pos := pos, after := after, guard := guard })
    (hi2 : ops[i2]? = some { dst := dst2, op := op2, type := ty2, pos := pos2, after := after2, guard := guard2 })
    (hi3 : ops[i3]? = some { dst := dst3, op := op3, type := ty3, pos := pos3, after := after3, guard := guard3 })
    (hr : Region.ready md ops listed = [i, i2, i3])
    (h : ∀ K' : Act → World → Prop, Shut (∀ a w, S w → (S w → wpAnyH P md ops Q S fuel (listed.setIfInBounds i true) a w) → K' a w) →
      if Region.wanted { dst := dst, op := op, type := ty, pos := pos, after := after, guard := guard } (yielded ops a.tmps) = true then
        Oper.wp P { dst := dst, op := op, type := ty, pos := pos, after := after, guard := guard } a w K' Q else K' (a.put dst undef) w)
    (h2 : ∀ K' : Act → World → Prop, Shut (∀ a w, S w → (S w → wpAnyH P md ops Q S fuel (listed.setIfInBounds i2 true) a w) → K' a w) →
      if Region.wanted { dst := dst2, op := op2, type := ty2, pos := pos2, after := after2, guard := guard2 } (yielded ops a.tmps) = true then
        Oper.wp P { dst := dst2, op := op2, type := ty2, pos := pos2, after := after2, guard := guard2 } a w K' Q else K' (a.put dst2 undef) w)
    (h3 : ∀ K' : Act → World → Prop, Shut (∀ a w, S w → (S w → wpAnyH P md ops Q S fuel (listed.setIfInBounds i3 true) a w) → K' a w) →
      if Region.wanted { dst := dst3, op := op3, type := ty3, pos := pos3, after := after3, guard := guard3 } (yielded ops a.tmps) = true then
        Oper.wp P { dst := dst3, op := op3, type := ty3, pos := pos3, after := after3, guard := guard3 } a w K' Q else K' (a.put dst3 undef) w) :
    wpAnyH P md ops Q S (fuel + 1) listed a w :=
  wpAnyH_ready hr (by simp) (AllReadyH.cons hi h (AllReadyH.cons hi2 h2 (AllReadyH.cons hi3 h3 AllReadyH.nil)))
end

end Go.Proofs.Ytbplhjoompgemaa
