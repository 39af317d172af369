/- What came in is not larger than the reach. -/
import Derived.Test.YtjanhgekocpobaaDocA
namespace Go.Proofs.Ytjanhgekocpobaa
open Go.ChangeShapes
theorem fits_of {H : Type} {P : Program} {ts : List TypeId} {ds : List (DataW H)} (h : (DataW.weightsEach P ts ds).all (· ≤ reachBytes) = true) {j : Nat} {t : TypeId} {d : DataW H} (ht : ts[j]? = some t) (hd : ds[j]? = some d) : Fits P t d := fun n hn => by
  have := List.all_eq_true.1 h _ (DataW.weights_mem_each ht hd n hn)
  simpa using this
end Go.Proofs.Ytjanhgekocpobaa
