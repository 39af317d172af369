/- Two lines side by side; the statement's own 'set'; two spans set in either order. -/
import Derived.Test.YtgljajoknmgoeaaUlM
namespace Go.Proofs.Ytgljajoknmgoeaa
open Go.RowKit
set_option maxRecDepth 100000

theorem Chg.cell {w w' : World} {B : Nat} (h : Chg w w' B) {a : Addr} {v : Value} (hc : w.cell? a = some v) (hne : a.block ≠ B) : w'.cell? a = some v := (World.cell?_of_block (h.block _ (block_lt_of_cell hc) hne)).trans hc
theorem Chg.heap {w w' : World} {B g : Nat} {o : Obj} (h : Chg w w' B) (hg : w.heap[g]? = some o) (hne : g ≠ B) : w'.heap[g]? = some o := (h.block g (heapLt hg) hne).trans hg
/-- a row does not lie in a line's own block -/
theorem row_apart {w : World} {b o B most : Nat} {L M : List Sp} (hr : w.rangeAt b o (flat2 L)) (hn : L ≠ []) (h : Lin w B most M) : b ≠ B := fun e => by
  subst e
  obtain ⟨A, c, hg, _⟩ := h
  have hl : 0 < L.length := List.length_pos_iff.2 hn
  have h2 := hr _ _ (flat2_at L 0 hl).2
  rw [cell_of_row w b _ _ _ _ hg] at h2
  match o with
  | 0 => simp at h2
  | k + 1 => simp at h2
theorem Row2.chg {w w' : World} {A : Option Addr} {B most : Nat} {L M : List Sp} (h : Row2 w A L) (h' : Lin w B most M) (c : Chg w w' B) : Row2 w' A L := fun hn => by
  obtain ⟨b, o, e, hb, hr⟩ := h hn
  have hne := row_apart hr hn h'
  exact ⟨b, o, e, Nat.lt_of_lt_of_le hb c.size, fun j v hv => c.cell (hr j v hv) hne⟩
theorem Lin.chg {w w' : World} {B B' most most' : Nat} {L M : List Sp} (h : Lin w B most L) (h' : Lin w B' most' M) (c : Chg w w' B') (hne : B ≠ B') : Lin w' B most L := by
  obtain ⟨A, k, h0, h1, h2⟩ := h
  exact ⟨A, k, c.heap h0 hne, h1.chg h' c, h2⟩
end Go.Proofs.Ytgljajoknmgoeaa
