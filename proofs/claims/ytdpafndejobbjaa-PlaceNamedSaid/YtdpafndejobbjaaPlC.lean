/- Where a line is supplied: what a call keeps at hand. -/
import Derived.Test.YtdpafndejobbjaaPlB
namespace Go.Proofs.Ytdpafndejobbjaa
open Go.RowKit
set_option maxRecDepth 100000
set_option linter.unusedSimpArgs false
set_option linter.unusedVariables false

structure CaseS (b : Nat) (home : ByteArray) (d : DocV) (su ca : Int) (fr to_ pl : ByteArray) (am : Int) (gr : Bool) (co : Int) (mi : Bool) (er : Int) (x0 : Bool) (x1 : Int) (x2 : Bool) (x3 x4 x5 x6 : Int) (x7 x8 : Bool) (W : World) : Prop where
  hs : W.heap[b]? = some (.cells #[.string home] 9 (0, 0))
  hd : W.heap[b + 1]? = some (.cells #[.string d.id, .bool d.sale, .bool d.credit, .string d.refers, .int .i64 d.day, .string d.country, .string d.number, .string d.currency, .slice d.linesA d.lines.length d.linesC] 26 (0, 0))
  hl : W.heap[b + 1 + 1]? = some (.cells #[.int .i64 su, .int .i64 ca, .string fr, .string to_, .string pl, .int .i64 am, .bool gr, .int .i64 co, .bool mi] 34 (0, 0))
  hr : W.heap[b + 1 + 1 + 1]? = some (.cells #[.bool false, .int .i64 0, .bool false, .int .i64 0, .int .i64 0, .int .i64 0, .int .i64 0, .bool false, .bool false] 37 (0, 0))
  he : W.heap[b + 1 + 1 + 1 + 1]? = some (.cells #[.int .i64 er] 38 (0, 0))
  hc : W.heap[b + 1 + 1 + 1 + 1 + 1]? = some (.cells #[.bool x0, .int .i64 x1, .bool x2, .int .i64 x3, .int .i64 x4, .int .i64 x5, .int .i64 x6, .bool x7, .bool x8] 37 (0, 0))
theorem CaseS.on {b : Nat} {home : ByteArray} {d : DocV} {su ca : Int} {fr to_ pl : ByteArray} {am : Int} {gr : Bool} {co : Int} {mi : Bool} {er : Int} {x0 : Bool} {x1 : Int} {x2 : Bool} {x3 x4 x5 x6 : Int} {x7 x8 : Bool} {W W' : World} (h : CaseS b home d su ca fr to_ pl am gr co mi er x0 x1 x2 x3 x4 x5 x6 x7 x8 W) (hb : Below W.heap.size W W') : CaseS b home d su ca fr to_ pl am gr co mi er x0 x1 x2 x3 x4 x5 x6 x7 x8 W' :=
  ⟨heap_on hb h.hs, heap_on hb h.hd, heap_on hb h.hl, heap_on hb h.hr, heap_on hb h.he, heap_on hb h.hc⟩
theorem CaseS.setE {b : Nat} {home : ByteArray} {d : DocV} {su ca : Int} {fr to_ pl : ByteArray} {am : Int} {gr : Bool} {co : Int} {mi : Bool} {er : Int} {x0 : Bool} {x1 : Int} {x2 : Bool} {x3 x4 x5 x6 : Int} {x7 x8 : Bool} {W : World} (h : CaseS b home d su ca fr to_ pl am gr co mi er x0 x1 x2 x3 x4 x5 x6 x7 x8 W) (n : Int) : CaseS b home d su ca fr to_ pl am gr co mi n x0 x1 x2 x3 x4 x5 x6 x7 x8 (W.setCell ⟨b + 1 + 1 + 1 + 1, 0, none⟩ (.int .i64 n)) :=
  ⟨(heap_setCell_other _ _ _ _ (by simp; try omega)).trans h.hs, (heap_setCell_other _ _ _ _ (by simp; try omega)).trans h.hd, (heap_setCell_other _ _ _ _ (by simp; try omega)).trans h.hl, (heap_setCell_other _ _ _ _ (by simp; try omega)).trans h.hr, heap_setCell_same _ _ _ _ _ _ h.he, (heap_setCell_other _ _ _ _ (by simp; try omega)).trans h.hc⟩
theorem CaseS.set3 {b : Nat} {home : ByteArray} {d : DocV} {su ca : Int} {fr to_ pl : ByteArray} {am : Int} {gr : Bool} {co : Int} {mi : Bool} {er : Int} {x0 : Bool} {x1 : Int} {x2 : Bool} {x3 x4 x5 x6 : Int} {x7 x8 : Bool} {W : World} (h : CaseS b home d su ca fr to_ pl am gr co mi er x0 x1 x2 x3 x4 x5 x6 x7 x8 W) (n : Int) : CaseS b home d su ca fr to_ pl am gr co mi er x0 x1 x2 n x4 x5 x6 x7 x8 (W.setCell ⟨b + 1 + 1 + 1 + 1 + 1, 3, none⟩ (.int .i64 n)) :=
  ⟨(heap_setCell_other _ _ _ _ (by simp; try omega)).trans h.hs, (heap_setCell_other _ _ _ _ (by simp; try omega)).trans h.hd, (heap_setCell_other _ _ _ _ (by simp; try omega)).trans h.hl, (heap_setCell_other _ _ _ _ (by simp; try omega)).trans h.hr, (heap_setCell_other _ _ _ _ (by simp; try omega)).trans h.he, heap_setCell_same _ _ _ _ _ _ h.hc⟩
theorem CaseS.set4 {b : Nat} {home : ByteArray} {d : DocV} {su ca : Int} {fr to_ pl : ByteArray} {am : Int} {gr : Bool} {co : Int} {mi : Bool} {er : Int} {x0 : Bool} {x1 : Int} {x2 : Bool} {x3 x4 x5 x6 : Int} {x7 x8 : Bool} {W : World} (h : CaseS b home d su ca fr to_ pl am gr co mi er x0 x1 x2 x3 x4 x5 x6 x7 x8 W) (n : Int) : CaseS b home d su ca fr to_ pl am gr co mi er x0 x1 x2 x3 n x5 x6 x7 x8 (W.setCell ⟨b + 1 + 1 + 1 + 1 + 1, 4, none⟩ (.int .i64 n)) :=
  ⟨(heap_setCell_other _ _ _ _ (by simp; try omega)).trans h.hs, (heap_setCell_other _ _ _ _ (by simp; try omega)).trans h.hd, (heap_setCell_other _ _ _ _ (by simp; try omega)).trans h.hl, (heap_setCell_other _ _ _ _ (by simp; try omega)).trans h.hr, (heap_setCell_other _ _ _ _ (by simp; try omega)).trans h.he, heap_setCell_same _ _ _ _ _ _ h.hc⟩
theorem CaseS.set5 {b : Nat} {home : ByteArray} {d : DocV} {su ca : Int} {fr to_ pl : ByteArray} {am : Int} {gr : Bool} {co : Int} {mi : Bool} {er : Int} {x0 : Bool} {x1 : Int} {x2 : Bool} {x3 x4 x5 x6 : Int} {x7 x8 : Bool} {W : World} (h : CaseS b home d su ca fr to_ pl am gr co mi er x0 x1 x2 x3 x4 x5 x6 x7 x8 W) (n : Int) : CaseS b home d su ca fr to_ pl am gr co mi er x0 x1 x2 x3 x4 n x6 x7 x8 (W.setCell ⟨b + 1 + 1 + 1 + 1 + 1, 5, none⟩ (.int .i64 n)) :=
  ⟨(heap_setCell_other _ _ _ _ (by simp; try omega)).trans h.hs, (heap_setCell_other _ _ _ _ (by simp; try omega)).trans h.hd, (heap_setCell_other _ _ _ _ (by simp; try omega)).trans h.hl, (heap_setCell_other _ _ _ _ (by simp; try omega)).trans h.hr, (heap_setCell_other _ _ _ _ (by simp; try omega)).trans h.he, heap_setCell_same _ _ _ _ _ _ h.hc⟩
theorem CaseS.set6 {b : Nat} {home : ByteArray} {d : DocV} {su ca : Int} {fr to_ pl : ByteArray} {am : Int} {gr : Bool} {co : Int} {mi : Bool} {er : Int} {x0 : Bool} {x1 : Int} {x2 : Bool} {x3 x4 x5 x6 : Int} {x7 x8 : Bool} {W : World} (h : CaseS b home d su ca fr to_ pl am gr co mi er x0 x1 x2 x3 x4 x5 x6 x7 x8 W) (n : Int) : CaseS b home d su ca fr to_ pl am gr co mi er x0 x1 x2 x3 x4 x5 n x7 x8 (W.setCell ⟨b + 1 + 1 + 1 + 1 + 1, 6, none⟩ (.int .i64 n)) :=
  ⟨(heap_setCell_other _ _ _ _ (by simp; try omega)).trans h.hs, (heap_setCell_other _ _ _ _ (by simp; try omega)).trans h.hd, (heap_setCell_other _ _ _ _ (by simp; try omega)).trans h.hl, (heap_setCell_other _ _ _ _ (by simp; try omega)).trans h.hr, (heap_setCell_other _ _ _ _ (by simp; try omega)).trans h.he, heap_setCell_same _ _ _ _ _ _ h.hc⟩
theorem frozen9 {W : World} {g : Nat} {v0 v1 v2 v3 v4 v5 v6 v7 v8 : Value} {t : TypeId} (h : W.heap[g]? = some (.cells #[v0, v1, v2, v3, v4, v5, v6, v7, v8] t (0, 0))) (i : Nat) (hi : i < 9) : W.frozen? ⟨g, i, none⟩ = false := by
  have h9 : i = 0 ∨ i = 1 ∨ i = 2 ∨ i = 3 ∨ i = 4 ∨ i = 5 ∨ i = 6 ∨ i = 7 ∨ i = 8 := by omega
  rcases h9 with rfl | rfl | rfl | rfl | rfl | rfl | rfl | rfl | rfl <;> exact frozen_of_row W g _ _ _ h
/-- the line's -/
theorem CaseS.lineC {b : Nat} {home : ByteArray} {d : DocV} {su ca : Int} {fr to_ pl : ByteArray} {am : Int} {gr : Bool} {co : Int} {mi : Bool} {er : Int} {x0 : Bool} {x1 : Int} {x2 : Bool} {x3 x4 x5 x6 : Int} {x7 x8 : Bool} {W : World} (h : CaseS b home d su ca fr to_ pl am gr co mi er x0 x1 x2 x3 x4 x5 x6 x7 x8 W) : W.cell? ⟨b + 1 + 1, 0, none⟩ = some (.int .i64 su) ∧ W.cell? ⟨b + 1 + 1, 1, none⟩ = some (.int .i64 ca) ∧ W.cell? ⟨b + 1 + 1, 2, none⟩ = some (.string fr) ∧ W.cell? ⟨b + 1 + 1, 3, none⟩ = some (.string to_) ∧ W.cell? ⟨b + 1 + 1, 4, none⟩ = some (.string pl) ∧ W.cell? ⟨b + 1 + 1, 5, none⟩ = some (.int .i64 am) ∧ W.cell? ⟨b + 1 + 1, 6, none⟩ = some (.bool gr) ∧ W.cell? ⟨b + 1 + 1, 7, none⟩ = some (.int .i64 co) ∧ W.cell? ⟨b + 1 + 1, 8, none⟩ = some (.bool mi) := cellsLineV h.hl
theorem CaseS.docC {b : Nat} {home : ByteArray} {d : DocV} {su ca : Int} {fr to_ pl : ByteArray} {am : Int} {gr : Bool} {co : Int} {mi : Bool} {er : Int} {x0 : Bool} {x1 : Int} {x2 : Bool} {x3 x4 x5 x6 : Int} {x7 x8 : Bool} {W : World} (h : CaseS b home d su ca fr to_ pl am gr co mi er x0 x1 x2 x3 x4 x5 x6 x7 x8 W) : W.cell? ⟨b + 1, 1, none⟩ = some (.bool d.sale) ∧ W.cell? ⟨b + 1, 5, none⟩ = some (.string d.country) := ⟨cell_of_row W _ 1 _ _ _ h.hd, cell_of_row W _ 5 _ _ _ h.hd⟩
theorem CaseS.caseC {b : Nat} {home : ByteArray} {d : DocV} {su ca : Int} {fr to_ pl : ByteArray} {am : Int} {gr : Bool} {co : Int} {mi : Bool} {er : Int} {x0 : Bool} {x1 : Int} {x2 : Bool} {x3 x4 x5 x6 : Int} {x7 x8 : Bool} {W : World} (h : CaseS b home d su ca fr to_ pl am gr co mi er x0 x1 x2 x3 x4 x5 x6 x7 x8 W) : W.cell? ⟨b + 1 + 1 + 1 + 1 + 1, 0, none⟩ = some (.bool x0) ∧ W.cell? ⟨b + 1 + 1 + 1 + 1 + 1, 1, none⟩ = some (.int .i64 x1) ∧ W.cell? ⟨b + 1 + 1 + 1 + 1 + 1, 2, none⟩ = some (.bool x2) ∧ W.cell? ⟨b + 1 + 1 + 1 + 1 + 1, 3, none⟩ = some (.int .i64 x3) ∧ W.cell? ⟨b + 1 + 1 + 1 + 1 + 1, 4, none⟩ = some (.int .i64 x4) ∧ W.cell? ⟨b + 1 + 1 + 1 + 1 + 1, 5, none⟩ = some (.int .i64 x5) ∧ W.cell? ⟨b + 1 + 1 + 1 + 1 + 1, 6, none⟩ = some (.int .i64 x6) ∧ W.cell? ⟨b + 1 + 1 + 1 + 1 + 1, 7, none⟩ = some (.bool x7) ∧ W.cell? ⟨b + 1 + 1 + 1 + 1 + 1, 8, none⟩ = some (.bool x8) := cellsLineV h.hc
theorem CaseS.resC {b : Nat} {home : ByteArray} {d : DocV} {su ca : Int} {fr to_ pl : ByteArray} {am : Int} {gr : Bool} {co : Int} {mi : Bool} {er : Int} {x0 : Bool} {x1 : Int} {x2 : Bool} {x3 x4 x5 x6 : Int} {x7 x8 : Bool} {W : World} (h : CaseS b home d su ca fr to_ pl am gr co mi er x0 x1 x2 x3 x4 x5 x6 x7 x8 W) : W.cell? ⟨b + 1 + 1 + 1, 0, none⟩ = some (.bool false) ∧ W.cell? ⟨b + 1 + 1 + 1, 1, none⟩ = some (.int .i64 0) ∧ W.cell? ⟨b + 1 + 1 + 1, 2, none⟩ = some (.bool false) ∧ W.cell? ⟨b + 1 + 1 + 1, 3, none⟩ = some (.int .i64 0) ∧ W.cell? ⟨b + 1 + 1 + 1, 4, none⟩ = some (.int .i64 0) ∧ W.cell? ⟨b + 1 + 1 + 1, 5, none⟩ = some (.int .i64 0) ∧ W.cell? ⟨b + 1 + 1 + 1, 6, none⟩ = some (.int .i64 0) ∧ W.cell? ⟨b + 1 + 1 + 1, 7, none⟩ = some (.bool false) ∧ W.cell? ⟨b + 1 + 1 + 1, 8, none⟩ = some (.bool false) := cellsLineV h.hr
def put9 (W : World) (g : Nat) (v0 v1 v2 v3 v4 v5 v6 v7 v8 : Value) : World := (((((((((W.setCell ⟨g, 0, none⟩ (v0)).setCell ⟨g, 1, none⟩ (v1)).setCell ⟨g, 2, none⟩ (v2)).setCell ⟨g, 3, none⟩ (v3)).setCell ⟨g, 4, none⟩ (v4)).setCell ⟨g, 5, none⟩ (v5)).setCell ⟨g, 6, none⟩ (v6)).setCell ⟨g, 7, none⟩ (v7)).setCell ⟨g, 8, none⟩ (v8))
theorem put9_heap {W : World} {g : Nat} {a0 a1 a2 a3 a4 a5 a6 a7 a8 : Value} {t : TypeId} (h : W.heap[g]? = some (.cells #[a0, a1, a2, a3, a4, a5, a6, a7, a8] t (0, 0))) (v0 v1 v2 v3 v4 v5 v6 v7 v8 : Value) : (put9 W g v0 v1 v2 v3 v4 v5 v6 v7 v8).heap[g]? = some (.cells #[v0, v1, v2, v3, v4, v5, v6, v7, v8] t (0, 0)) := by
  unfold put9
  have h0 : ((W.setCell ⟨g, 0, none⟩ (v0))).heap[g]? = some (.cells #[v0, a1, a2, a3, a4, a5, a6, a7, a8] t (0, 0)) := heap_setCell_same _ g 0 _ t v0 h
  have h1 : (((W.setCell ⟨g, 0, none⟩ (v0)).setCell ⟨g, 1, none⟩ (v1))).heap[g]? = some (.cells #[v0, v1, a2, a3, a4, a5, a6, a7, a8] t (0, 0)) := heap_setCell_same _ g 1 _ t v1 h0
  have h2 : ((((W.setCell ⟨g, 0, none⟩ (v0)).setCell ⟨g, 1, none⟩ (v1)).setCell ⟨g, 2, none⟩ (v2))).heap[g]? = some (.cells #[v0, v1, v2, a3, a4, a5, a6, a7, a8] t (0, 0)) := heap_setCell_same _ g 2 _ t v2 h1
  have h3 : (((((W.setCell ⟨g, 0, none⟩ (v0)).setCell ⟨g, 1, none⟩ (v1)).setCell ⟨g, 2, none⟩ (v2)).setCell ⟨g, 3, none⟩ (v3))).heap[g]? = some (.cells #[v0, v1, v2, v3, a4, a5, a6, a7, a8] t (0, 0)) := heap_setCell_same _ g 3 _ t v3 h2
  have h4 : ((((((W.setCell ⟨g, 0, none⟩ (v0)).setCell ⟨g, 1, none⟩ (v1)).setCell ⟨g, 2, none⟩ (v2)).setCell ⟨g, 3, none⟩ (v3)).setCell ⟨g, 4, none⟩ (v4))).heap[g]? = some (.cells #[v0, v1, v2, v3, v4, a5, a6, a7, a8] t (0, 0)) := heap_setCell_same _ g 4 _ t v4 h3
  have h5 : (((((((W.setCell ⟨g, 0, none⟩ (v0)).setCell ⟨g, 1, none⟩ (v1)).setCell ⟨g, 2, none⟩ (v2)).setCell ⟨g, 3, none⟩ (v3)).setCell ⟨g, 4, none⟩ (v4)).setCell ⟨g, 5, none⟩ (v5))).heap[g]? = some (.cells #[v0, v1, v2, v3, v4, v5, a6, a7, a8] t (0, 0)) := heap_setCell_same _ g 5 _ t v5 h4
  have h6 : ((((((((W.setCell ⟨g, 0, none⟩ (v0)).setCell ⟨g, 1, none⟩ (v1)).setCell ⟨g, 2, none⟩ (v2)).setCell ⟨g, 3, none⟩ (v3)).setCell ⟨g, 4, none⟩ (v4)).setCell ⟨g, 5, none⟩ (v5)).setCell ⟨g, 6, none⟩ (v6))).heap[g]? = some (.cells #[v0, v1, v2, v3, v4, v5, v6, a7, a8] t (0, 0)) := heap_setCell_same _ g 6 _ t v6 h5
  have h7 : (((((((((W.setCell ⟨g, 0, none⟩ (v0)).setCell ⟨g, 1, none⟩ (v1)).setCell ⟨g, 2, none⟩ (v2)).setCell ⟨g, 3, none⟩ (v3)).setCell ⟨g, 4, none⟩ (v4)).setCell ⟨g, 5, none⟩ (v5)).setCell ⟨g, 6, none⟩ (v6)).setCell ⟨g, 7, none⟩ (v7))).heap[g]? = some (.cells #[v0, v1, v2, v3, v4, v5, v6, v7, a8] t (0, 0)) := heap_setCell_same _ g 7 _ t v7 h6
  have h8 : ((((((((((W.setCell ⟨g, 0, none⟩ (v0)).setCell ⟨g, 1, none⟩ (v1)).setCell ⟨g, 2, none⟩ (v2)).setCell ⟨g, 3, none⟩ (v3)).setCell ⟨g, 4, none⟩ (v4)).setCell ⟨g, 5, none⟩ (v5)).setCell ⟨g, 6, none⟩ (v6)).setCell ⟨g, 7, none⟩ (v7)).setCell ⟨g, 8, none⟩ (v8))).heap[g]? = some (.cells #[v0, v1, v2, v3, v4, v5, v6, v7, v8] t (0, 0)) := heap_setCell_same _ g 8 _ t v8 h7
  exact h8
theorem put9_other (W : World) (g : Nat) (v0 v1 v2 v3 v4 v5 v6 v7 v8 : Value) (k : Nat) (h : k ≠ g) : (put9 W g v0 v1 v2 v3 v4 v5 v6 v7 v8).heap[k]? = W.heap[k]? := by
  unfold put9
  exact (heap_setCell_other _ ⟨g, 8, none⟩ k v8 h).trans ((heap_setCell_other _ ⟨g, 7, none⟩ k v7 h).trans ((heap_setCell_other _ ⟨g, 6, none⟩ k v6 h).trans ((heap_setCell_other _ ⟨g, 5, none⟩ k v5 h).trans ((heap_setCell_other _ ⟨g, 4, none⟩ k v4 h).trans ((heap_setCell_other _ ⟨g, 3, none⟩ k v3 h).trans ((heap_setCell_other _ ⟨g, 2, none⟩ k v2 h).trans ((heap_setCell_other _ ⟨g, 1, none⟩ k v1 h).trans (heap_setCell_other _ ⟨g, 0, none⟩ k v0 h))))))))
theorem put9_below {B : Nat} {w W : World} {g : Nat} (hg : B ≤ g) (h : Below B w W) (v0 v1 v2 v3 v4 v5 v6 v7 v8 : Value) : Below B w (put9 W g v0 v1 v2 v3 v4 v5 v6 v7 v8) := by
  unfold put9
  have h0 := Below.setCell h (p := ⟨g, 0, none⟩) (show B ≤ g from hg) v0
  have h1 := Below.setCell h0 (p := ⟨g, 1, none⟩) (show B ≤ g from hg) v1
  have h2 := Below.setCell h1 (p := ⟨g, 2, none⟩) (show B ≤ g from hg) v2
  have h3 := Below.setCell h2 (p := ⟨g, 3, none⟩) (show B ≤ g from hg) v3
  have h4 := Below.setCell h3 (p := ⟨g, 4, none⟩) (show B ≤ g from hg) v4
  have h5 := Below.setCell h4 (p := ⟨g, 5, none⟩) (show B ≤ g from hg) v5
  have h6 := Below.setCell h5 (p := ⟨g, 6, none⟩) (show B ≤ g from hg) v6
  have h7 := Below.setCell h6 (p := ⟨g, 7, none⟩) (show B ≤ g from hg) v7
  have h8 := Below.setCell h7 (p := ⟨g, 8, none⟩) (show B ≤ g from hg) v8
  exact h8
theorem zoneS_on {b : Nat} {home : ByteArray} {d : DocV} {su ca : Int} {fr to_ pl : ByteArray} {am : Int} {gr : Bool} {co : Int} {mi : Bool}  {x0 : Bool} {x1 : Int} {x2 : Bool} {x3 x4 x5 x6 : Int} {x7 x8 : Bool} {w : World} (c : ByteArray) (z n : Int) (hS : CaseS b home d su ca fr to_ pl am gr co mi 0 x0 x1 x2 x3 x4 x5 x6 x7 x8 w) (h1 : home.size ≤ 1000) (h2 : c.size ≤ 1000) (hM : MaxL w) (hV : zoneV home c = zT z n) : Calls Try.prog 26 #[.bool true, .string c, .pointer (some ⟨b + 1 + 1 + 1 + 1, 0, none⟩), .pointer (some ⟨b, 0, none⟩)] w fun e w1 => e = .returned (.int .i64 z) ∧ CaseS b home d su ca fr to_ pl am gr co mi n x0 x1 x2 x3 x4 x5 x6 x7 x8 w1 ∧ Below b w w1 ∧ w1.heap.size = w.heap.size := by
  refine (zone_on home c (b + 1 + 1 + 1 + 1) b z n w (one_cell hS.he).1 (one_cell hS.he).2 (one_cell hS.hs).1 h1 h2 hM hV).mono ?_
  rintro e w1 ⟨rfl, rfl⟩
  exact ⟨rfl, hS.setE n, (Below.refl _ _).setCell (by simp; try omega) _, by simp [World.setCell]⟩
def zif (nm : Bool) (h c : ByteArray) : Int := if nm then zn h c else 0
theorem zoneS_any {b : Nat} {home : ByteArray} {d : DocV} {su ca : Int} {fr to_ pl : ByteArray} {am : Int} {gr : Bool} {co : Int} {mi : Bool}  {x0 : Bool} {x1 : Int} {x2 : Bool} {x3 x4 x5 x6 : Int} {x7 x8 : Bool} {w : World} (nm : Bool) (c : ByteArray) (hS : CaseS b home d su ca fr to_ pl am gr co mi 0 x0 x1 x2 x3 x4 x5 x6 x7 x8 w) (h1 : home.size ≤ 1000) (h2 : c.size ≤ 1000) (hM : MaxL w) (hc : nm = true → zoneOk home c = true) : Calls Try.prog 26 #[.bool nm, .string c, .pointer (some ⟨b + 1 + 1 + 1 + 1, 0, none⟩), .pointer (some ⟨b, 0, none⟩)] w fun e w1 => e = .returned (.int .i64 (zif nm home c)) ∧ CaseS b home d su ca fr to_ pl am gr co mi 0 x0 x1 x2 x3 x4 x5 x6 x7 x8 w1 ∧ Below b w w1 := by
  cases nm with
  | false => exact (zone_off c _ _ w).mono (fun e w1 h => ⟨h.1, by rw [← h.2]; exact hS, by rw [← h.2]; exact Below.refl _ _⟩)
  | true => exact (zoneS_on c _ 0 hS h1 h2 hM (zone_yes (hc rfl))).mono (fun e w1 h => ⟨h.1, h.2.1, h.2.2.1⟩)
theorem sup_places {su : Int} {fr to_ pl : ByteArray} {gr : Bool} {co : Int} (h : supB su fr to_ pl gr co = true) : (movB su = true → placeB fr = true ∧ placeB to_ = true) ∧ (locB su = true → placeB pl = true) := by
  unfold supB at h
  unfold movB locB
  by_cases h7 : su = 7
  · rw [if_pos h7] at h
    subst h7
    simp only [Bool.and_eq_true] at h
    exact ⟨fun _ => ⟨h.2.1.1, h.2.1.2⟩, fun h2 => by simp at h2⟩
  · rw [if_neg h7, Bool.and_eq_true] at h
    by_cases h1 : su = 1
    · rw [if_pos h1] at h
      subst h1
      simp only [Bool.and_eq_true] at h
      exact ⟨fun _ => ⟨h.2.1.1, h.2.1.2⟩, fun h2 => by simp at h2⟩
    · rw [if_neg h1] at h
      by_cases h3 : su = 3 ∨ su = 4 ∨ su = 5
      · rw [if_pos h3] at h
        simp only [Bool.and_eq_true] at h
        exact ⟨fun h2 => by simp [h1, h7] at h2, fun _ => h.2.2⟩
      · exact ⟨fun h2 => by simp [h1, h7] at h2, fun h2 => by simp at h2; omega⟩
end Go.Proofs.Ytdpafndejobbjaa
