/- What fits the reach. -/
import Derived.Test.YtaccjfoifkfpfaaDoorLawEndB
import Derived.Lib.SmallJoins
import Derived.SizedLaws
import Derived.ArgAppend
import Derived.Test.YtaccjfoifkfpfaaDoorRegion
import Derived.Deep.MidRow
import Derived.Shelf.RegionOpen
import Derived.Laws.StructEq
namespace Go.Proofs.YtaccjfoifkfpfaaDoor
open Go.ChangeShapes Go.WideShapes Go.ChangeAt Go.RowKit Go.Joins Go.Deep
set_option maxRecDepth 100000
/-- no part of what came in is larger than the reach -/
def Fits {H : Type} (P : Program) (t : TypeId) (d : DataW H) : Prop := ∀ n ∈ d.weights P t, n ≤ reachBytes
theorem Fits.part {H : Type} {P : Program} {t : TypeId} {fs : Array Field} {ds : List (DataW H)} (hu : P.underlying t = some (.struct fs)) (h : Fits P t (.agg ds)) {i : Nat} {f : Field} {d : DataW H} (hf : fs[i]? = some f) (hd : ds[i]? = some d) : Fits P f.type d := fun n hn =>
  h n (by
    simp only [DataW.weights, hu]
    exact DataW.weights_mem_each (j := i) (by simp [hf]) hd n hn)
theorem Fits.text {H : Type} {P : Program} {t : TypeId} {s : ByteArray} (h : Fits (H := H) P t (.lit (.string s.data.toList))) : s.size ≤ 140737488351232 := by
  have h1 := h s.data.toList.length (by simp [DataW.weights])
  have h2 : reachBytes = 140737488351232 := rfl
  rw [h2, Array.length_toList] at h1
  exact h1
theorem weightsAll_mem {H : Type} {P : Program} {e : TypeId} : ∀ {ds : List (DataW H)} {d : DataW H}, d ∈ ds → ∀ n ∈ d.weights P e, n ∈ DataW.weightsAll P e ds
  | d0 :: r, d, hd, n, hn => by
    simp only [DataW.weightsAll, List.mem_append]
    rcases List.mem_cons.1 hd with rfl | h
    · exact .inl hn
    · exact .inr (weightsAll_mem h n hn)
  | [], _, hd, _, _ => by simp at hd
theorem Fits.item {H : Type} {P : Program} {t e : TypeId} {ds sp : List (DataW H)} {d : DataW H} (hu : P.underlying t = some (.slice e)) (h : Fits P t (.slice ds sp)) (hd : d ∈ ds) : Fits P e d := fun n hn =>
  h n (by
    simp only [DataW.weights, hu, List.mem_cons, List.mem_append]
    exact .inr (.inl (weightsAll_mem hd n hn)))
theorem Fits.room {H : Type} {P : Program} {t e : TypeId} {ds sp : List (DataW H)} (hu : P.underlying t = some (.slice e)) (h : Fits P t (.slice ds sp)) : ds.length * P.bytesOf e ≤ 140737488351232 := by
  have h1 := h ((ds.length + sp.length) * P.bytesOf e) (by simp [DataW.weights, hu])
  have h2 : reachBytes = 140737488351232 := rfl
  rw [h2, Nat.add_mul] at h1
  omega
end Go.Proofs.YtaccjfoifkfpfaaDoor
