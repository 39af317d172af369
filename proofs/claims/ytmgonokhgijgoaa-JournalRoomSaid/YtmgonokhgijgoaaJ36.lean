/- The chapter's example of a disk. The statement on a torn write, where it looks at nothing. -/
import Derived.Test.YtmgonokhgijgoaaJ26
import Derived.Test.YtmgonokhgijgoaaJ31
namespace Go.Proofs.Ytmgonokhgijgoaa
open Go.RowKit
set_option maxRecDepth 100000

def v0 : DiskV := newD 1
def v1 : DiskV := writeD v0 0 (fillT 97)
def v2 : DiskV := { v1 with set := true, after := 0, torn := 2 }
def v3 : DiskV := writeD v2 0 (fillT 98)
def v4 : DiskV := { v3 with dead := false, set := false, after := 0, torn := 0 }
theorem e1 : writeE v0 0 (fillT 97) = 0 := by decide
theorem e3 : writeE v2 0 (fillT 98) = 32 := by decide
theorem r4 : reachV v4 0 = 0 := by decide
theorem s4 : v4.S 0 = 98 :: 98 :: (fillT 97).drop 2 := by decide
theorem ok0 : OkD v0 := by unfold OkD; decide
theorem ok2 : OkD v2 := by unfold OkD; decide

end Go.Proofs.Ytmgonokhgijgoaa

namespace Go.Proofs.Ytmgonokhgijgoaa
open Go.RowKit
set_option maxRecDepth 100000

/-- the statement's own variables, laid -/
def boxes5 (w : World) (i torn X Y : Int) : World :=
  ((((w.alloc (.cells #[.int .i64 i] 3)).alloc (.cells #[.int .i64 torn] 3)).alloc (.cells #[.int .u8 X] 5)).alloc (.cells #[.int .u8 Y] 5)).alloc (.cells #[.bool false] 4)
theorem boxes5_below (w : World) (i torn X Y : Int) : Below w.heap.size w (boxes5 w i torn X Y) :=
  (((((Below.refl _ w).alloc (Nat.le_refl _) _).alloc (by simp) _).alloc (by simp <;> omega) _).alloc (by simp <;> omega) _).alloc (by simp <;> omega) _
theorem boxes5_size (w : World) (i torn X Y : Int) : (boxes5 w i torn X Y).heap.size = w.heap.size + 5 := by simp [boxes5]
theorem one_cell {W : World} {g : Nat} {v : Value} {t : TypeId} (h : W.heap[g]? = some (.cells #[v] t (0, 0))) : W.cell? ⟨g, 0, none⟩ = some v ∧ W.frozen? ⟨g, 0, none⟩ = false :=
  ⟨cell_of_row W g 0 _ _ _ h, frozen_of_row W g 0 _ _ h⟩
theorem box5 {w W : World} {i torn X Y : Int} (h : Below (w.heap.size + 5) (boxes5 w i torn X Y) W) :
    W.heap[w.heap.size]? = some (.cells #[.int .i64 i] 3 (0, 0)) ∧ W.heap[w.heap.size + 1]? = some (.cells #[.int .i64 torn] 3 (0, 0)) ∧ W.heap[w.heap.size + 1 + 1]? = some (.cells #[.int .u8 X] 5 (0, 0)) ∧
    W.heap[w.heap.size + 1 + 1 + 1]? = some (.cells #[.int .u8 Y] 5 (0, 0)) ∧ W.heap[w.heap.size + 1 + 1 + 1 + 1]? = some (.cells #[.bool false] 4 (0, 0)) := by
  have e1 := heap_alloc_new w (.cells #[.int .i64 i] 3)
  have e2 := heap_alloc_new (w.alloc (.cells #[.int .i64 i] 3)) (.cells #[.int .i64 torn] 3)
  have e3 := heap_alloc_new ((w.alloc (.cells #[.int .i64 i] 3)).alloc (.cells #[.int .i64 torn] 3)) (.cells #[.int .u8 X] 5)
  have e4 := heap_alloc_new (((w.alloc (.cells #[.int .i64 i] 3)).alloc (.cells #[.int .i64 torn] 3)).alloc (.cells #[.int .u8 X] 5)) (.cells #[.int .u8 Y] 5)
  have e5 := heap_alloc_new ((((w.alloc (.cells #[.int .i64 i] 3)).alloc (.cells #[.int .i64 torn] 3)).alloc (.cells #[.int .u8 X] 5)).alloc (.cells #[.int .u8 Y] 5)) (.cells #[.bool false] 4)
  simp only [World.size_alloc] at e1 e2 e3 e4 e5
  refine ⟨(h.block _ (by omega)).trans ?_, (h.block _ (by omega)).trans ?_, (h.block _ (by omega)).trans ?_, (h.block _ (by omega)).trans ?_, (h.block _ (by omega)).trans ?_⟩ <;> unfold boxes5
  · rw [Below.heap_alloc _ _ _ (by simp <;> omega), Below.heap_alloc _ _ _ (by simp <;> omega), Below.heap_alloc _ _ _ (by simp <;> omega), Below.heap_alloc _ _ _ (by simp)]; exact e1
  · rw [Below.heap_alloc _ _ _ (by simp <;> omega), Below.heap_alloc _ _ _ (by simp <;> omega), Below.heap_alloc _ _ _ (by simp)]; exact e2
  · rw [Below.heap_alloc _ _ _ (by simp <;> omega), Below.heap_alloc _ _ _ (by simp)]; exact e3
  · rw [Below.heap_alloc _ _ _ (by simp)]; exact e4
  · exact e5

theorem results_one_cell {fn : Func} {p : Tmp} {ty : TypeId} (h : fn.results = #[.cell p ty]) (tmps : Array Value) (W : World) (g : Nat) (v : Bool) (hp : tmps.getD p undef = .pointer (some ⟨g, 0, none⟩)) (hu : Try.prog.underlying ty = some .bool) (hc : W.cell? ⟨g, 0, none⟩ = some (.bool v)) :
    (results fn tmps).run Try.prog W = .ok (.bool v) W := by
  have hz : (isAgg ty).run Try.prog W = .ok false W := by
    unfold isAgg
    rw [Sem.run_bind, run_underlying hu W]
    rfl
  have hp' : tmps[p]?.getD undef = .pointer (some ⟨g, 0, none⟩) := by simpa [Array.getD_eq_getD_getElem?] using hp
  simp [results, h, hp', go_sem, loadVar, hz, hc]

end Go.Proofs.Ytmgonokhgijgoaa
