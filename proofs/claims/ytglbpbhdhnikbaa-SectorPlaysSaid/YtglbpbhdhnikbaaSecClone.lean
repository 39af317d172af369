/- A disk cloned. -/
import Derived.Test.YtglbpbhdhnikbaaSecOps
import Derived.Laws.Externs
import Derived.MapKept
namespace Go.Proofs.Ytglbpbhdhnikbaa
open Go.RowKit
set_option maxRecDepth 100000

theorem eql_map_in (w : World) (d b : Nat) : (Op.equalIn (d + 1) 95 (.map (some b)) (.map none)).run Try.prog w = .ok false w := by
  rw [Op.equalIn]
  simp only [Sem.run_bind, run_underlying Try.underlying95, Result.andThen_ok]
  rfl
theorem eql_map_step (t : TypeId) (b : Nat) (w : World) : (binOp .eql t (.map (some b)) (.map none)).run Try.prog w = ((Op.equalIn 10000 t (.map (some b)) (.map none)).run Try.prog w).andThen fun b w' => .ok (.bool b) w' := by
  simp only [binOp]
  simp [Op.equal, Op.maxDepth]
theorem eql_map_nil (w : World) (b : Nat) : (binOp .eql 95 (.map (some b)) (.map none)).run Try.prog w = .ok (.bool false) w := by
  rw [eql_map_step, eql_map_in w 9999 b]
  rfl
theorem assert_map (w : World) (xT : TypeId) (v : Value) : (Instr.typeAssert (.iface 95 v) xT 95 false).run Try.prog w = .ok v w := by
  simp [Instr.typeAssert, run_underlying Try.underlying95, go_sem, Result.andThen]
theorem clone_map (w : World) {r : Nat} {es : Array MapEntry} {clock : Nat} (t : TypeId) (hb : w.heap[r]? = some (.map es clock)) :
    (Extern.MapsClone.clone #[.iface t (.map (some r))]).run Try.prog w = .ok (.iface t (.map (some w.heap.size))) (w.alloc (.map es clock)) := by
  have e : Extern.MapsClone.clone #[.iface t (.map (some r))] = (do
    let .map entries clock ← getObj r | stuck "maps.clone: a map expected"
    pure (.iface t (.map (some (← newObj (.map entries clock)))))) := rfl
  rw [e]
  simp [MapKept.run_getObj_map hb, Result.andThen, go_sem]

set_option maxHeartbeats 1000000 in
theorem code_mclone (w : World) (b : Nat) (es : Array MapEntry) (clock : Nat) (hb : w.heap[b]? = some (.map es clock)) :
    Calls Try.prog 54 #[.map (some b)] w fun e w' => e = .returned (.map (some w.heap.size)) ∧ w' = w.alloc (.map es clock) := by
  have hq := fun w => eql_map_nil w b
  go_enter Try.func54, Try.ntmps54
  go_wp2
  rw [run_callFunc_extern Try.func79 (by kernel_rfl) (by kernel_rfl) (by kernel_rfl) (e := Extern.MapsClone.clone) (by kernel_rfl), clone_map w 95 hb]
  simp only [Result.andThen]
  rw [Oper.upon_value]
  go_wp2
  rw [assert_map]
  simp only [Result.andThen]
  rw [Oper.upon_value]
  go_wp2
  go_ret
  exact ⟨rfl, rfl⟩
set_option maxHeartbeats 1000000 in
theorem code_dclone (w : World) (B bm n : Nat) (d : DiskV) (h : Dsk w B bm n d) :
    Calls Try.prog 27 #[.pointer (some ⟨B, 0, none⟩)] w fun e w' => e = .returned (.pointer (some ⟨w.heap.size, 0, none⟩)) ∧ Dsk w' w.heap.size (w.heap.size + 1) n d ∧ Below w.heap.size w w' := by
  obtain ⟨D, ⟨es, clock, hb, F, hs, hD⟩, hp⟩ := h.2.1
  have hlt := h.lt
  have hblt := heapLt hb
  obtain ⟨c0, c1, c2, c3, c4, c5, c6⟩ := h.cells
  have h3 := h.2.2
  obtain ⟨w0, hw0⟩ : ∃ w1, w1 = w.alloc (.cells (cellsD bm d) 99) := ⟨_, rfl⟩
  have hb0 : w0.heap[bm]? = some (.map es clock) := by rw [hw0, Below.heap_alloc _ _ _ hblt]; exact hb
  have HC : Hid (Calls Try.prog 54 #[.map (some bm)] w0 fun e w' => e = .returned (.map (some (w.heap.size + 1))) ∧ w' = w0.alloc (.map es clock)) := Lib.hid (by
    have := code_mclone w0 bm es clock hb0
    rw [show w0.heap.size = w.heap.size + 1 by rw [hw0]; simp] at this
    exact this)
  rw [hw0] at HC
  clear h
  go_enter Try.func27, Try.ntmps27
  go_wp2_with (go_at_call 54; refine HC.out.mono ?_; rintro e w1 ⟨rfl, rfl⟩)
  go_ret
  have e1 : (cellsD bm d).setIfInBounds 1 (.map (some (w.heap.size + 1))) = cellsD (w.heap.size + 1) d := rfl
  rw [e1]
  have hn1 := heap_alloc_new w (.cells (cellsD (w.heap.size + 1) d) 99)
  have hn2 := heap_alloc_new (w.alloc (.cells (cellsD (w.heap.size + 1) d) 99)) (.map es clock)
  rw [World.size_alloc] at hn2
  refine ⟨rfl, ⟨?_, ⟨D, ⟨es, clock, hn2, F, hs, hD⟩, hp⟩, h3.1, by omega, h3.2.2⟩, ((Below.refl _ w).alloc (Nat.le_refl _) _).alloc (by simp) _⟩
  rw [Below.heap_alloc _ _ _ (by simp)]
  exact hn1
end Go.Proofs.Ytglbpbhdhnikbaa
