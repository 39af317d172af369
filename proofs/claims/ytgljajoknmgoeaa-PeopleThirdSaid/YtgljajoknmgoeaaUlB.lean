/- A part of a line that holds nothing but that it holds: its own last field takes no room. -/
import Derived.Test.YtgljajoknmgoeaaTlB
namespace Go.Proofs.Ytgljajoknmgoeaa
open Go.RowKit
set_option maxRecDepth 100000

theorem part_end {W : World} {g : Nat} (h : W.shape? g = some (98, 2)) : (partAt ⟨g, 0, none⟩ 2 16).run Try.prog W = .ok ⟨g, 2, some 16⟩ W := by
  have hc : Try.prog.cellsOf 98 = 2 := by kernel_rfl
  have hb : Try.prog.bytesOf 98 = 24 := by kernel_rfl
  have h0 : byteOfCell Try.prog Try.prog.depth 98 0 = some 0 := by kernel_rfl
  have hv : (viewAt g).run Try.prog W = .ok none W := by simp [viewAt, go_sem, h]
  simp [partAt, byteOf, noView, go_sem, h, hc, hb, h0, hv]
theorem part_new (w : World) (a b : Value) : (partAt ⟨w.heap.size, 0, none⟩ 2 16).run Try.prog (w.alloc (.cells #[a, b] 98)) = .ok ⟨w.heap.size, 2, some 16⟩ (w.alloc (.cells #[a, b] 98)) := part_end (by
  unfold World.shape?
  rw [heap_alloc_new]
  rfl)
end Go.Proofs.Ytgljajoknmgoeaa
