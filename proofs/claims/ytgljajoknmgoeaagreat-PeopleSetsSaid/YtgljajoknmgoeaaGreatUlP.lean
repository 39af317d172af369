/- Set, whatever is set; the chapter's example; the document's spans. Two lines side by side; the statement's own 'set'; two spans set in either order. -/
import Derived.Test.YtgljajoknmgoeaaGreatUlL
namespace Go.Proofs.YtgljajoknmgoeaaGreat
open Go.RowKit
set_option maxRecDepth 100000

section
variable {w w' w'' : World} {B : Nat}
theorem Chg.of_below (h : Below w.heap.size w w') : Chg w w' B := ⟨h.os, h.tape, h.output, h.size, fun k hk _ => h.block k hk⟩
theorem Chg.trans (h : Chg w w' B) (k : Chg w' w'' B) : Chg w w'' B :=
  ⟨k.os.trans h.os, k.tape.trans h.tape, k.output.trans h.output, Nat.le_trans h.size k.size, fun i hi h1 => (k.block i (Nat.lt_of_lt_of_le hi h.size) h1).trans (h.block i hi h1)⟩
theorem Chg.below (h : Chg w w' B) {base : Nat} (h0 : base ≤ w.heap.size) (h1 : base ≤ B) : Below base w w' :=
  ⟨h.os, h.tape, h.output, h.size, fun k hk => h.block k (by omega) (by omega)⟩
end
/-- what 'Set' answers, and what it leaves -/
def setE (most : Nat) (L : List Sp) (f u : Int) : Int := if isSp f u then (if gapL f u L < u - f + 1 then 50 else if most ≤ L.length then 31 else 0) else 30
def setL (most : Nat) (L : List Sp) (p : Sp) : List Sp := if setE most L p.1 p.2.1 = 0 then insL L (pos p.1 L) p else L
theorem code_set (w : World) (B most : Nat) (L : List Sp) (f u x : Int) (h : Lin w B most L) :
    Calls Tryz.prog 43 #[.pointer (some ⟨B, 0, none⟩), .agg #[.int .i64 f, .int .i64 u], .agg #[]] w fun e w' => e = .returned (.int .i64 (setE most L f u)) ∧ Lin w' B most (setL most L (f, u, x)) ∧ Chg w w' B := by
  obtain ⟨A, c, h0⟩ := h
  have no : ∀ E : Int, E ≠ 0 → setE most L f u = E → setL most L (f, u, x) = L := fun E hE he => by unfold setL; rw [if_neg (by rw [he]; exact hE)]
  by_cases h1 : isSp f u
  · by_cases h2 : gapL f u L < u - f + 1
    · have he : setE most L f u = 50 := by unfold setE; rw [if_pos h1, if_pos h2]
      rw [no 50 (by decide) he, he]
      exact (set_no2 w B most c A L f u h0 (decide_eq_true h1) h2).mono fun e w' ⟨a, b⟩ => ⟨a, ⟨A, c, h0.on b⟩, .of_below b⟩
    · by_cases h3 : most ≤ L.length
      · have he : setE most L f u = 31 := by unfold setE; rw [if_pos h1, if_neg h2, if_pos h3]
        rw [no 31 (by decide) he, he]
        exact (set_no3 w B most c A L f u h0 (decide_eq_true h1) h2 h3).mono fun e w' ⟨a, b⟩ => ⟨a, ⟨A, c, h0.on b⟩, .of_below b⟩
      · have he : setE most L f u = 0 := by unfold setE; rw [if_pos h1, if_neg h2, if_neg h3]
        have hl : setL most L (f, u, x) = insL L (pos f L) (f, u, x) := by unfold setL; rw [if_pos he]
        rw [hl, he]
        exact set_yes w B most c A L f u x h0 (decide_eq_true h1) h2 h3
  · have he : setE most L f u = 30 := by unfold setE; rw [if_neg h1]
    rw [no 30 (by decide) he, he]
    exact (set_no1 w B most c A L f u h0 (decide_eq_false h1)).mono fun e w' ⟨a, b⟩ => ⟨a, ⟨A, c, h0.on b⟩, .of_below b⟩
/-- how many days, whatever is asked -/
def gapV (f u : Int) (L : List Sp) : Int := if isSp f u then gapL f u L else 0
theorem code_gap (w : World) (B most : Nat) (L : List Sp) (f u : Int) (h : Lin w B most L) : Calls Tryz.prog 63 #[.pointer (some ⟨B, 0, none⟩), .agg #[.int .i64 f, .int .i64 u]] w fun e w' => e = .returned (.int .i64 (gapV f u L)) ∧ Below w.heap.size w w' := by
  by_cases h1 : isSp f u
  · obtain ⟨A, c, h0⟩ := h
    rw [show gapV f u L = gapL f u L by unfold gapV; rw [if_pos h1]]
    exact code_gap_yes w B most c A L f u h0 (decide_eq_true h1)
  · rw [show gapV f u L = 0 by unfold gapV; rw [if_neg h1]]
    exact code_gap_no w B most L f u h (decide_eq_false h1)
end Go.Proofs.YtgljajoknmgoeaaGreat

namespace Go.Proofs.YtgljajoknmgoeaaGreat
open Go.RowKit
set_option maxRecDepth 100000

theorem Chg.cell {w w' : World} {B : Nat} (h : Chg w w' B) {a : Addr} {v : Value} (hc : w.cell? a = some v) (hne : a.block ≠ B) : w'.cell? a = some v := (World.cell?_of_block (h.block _ (block_lt_of_cell hc) hne)).trans hc
theorem Chg.heap {w w' : World} {B g : Nat} {o : Obj} (h : Chg w w' B) (hg : w.heap[g]? = some o) (hne : g ≠ B) : w'.heap[g]? = some o := (h.block g (heapLt hg) hne).trans hg
/-- a row does not lie in a line's own block -/
theorem row_apart {w : World} {b o B most : Nat} {L M : List Sp} (hr : w.rangeAt b o (flat2 L)) (hn : L ≠ []) (h : Lin w B most M) : b ≠ B := fun e => by
  subst e
  obtain ⟨A, c, hg, _⟩ := h
  have hl : 0 < L.length := List.length_pos_iff.2 hn
  have h2 := hr _ _ (flat2_at L 0 hl).2
  rw [cell_of_row w b _ _ _ _ hg] at h2
  match o with
  | 0 => simp at h2
  | k + 1 => simp at h2
theorem Row2.chg {w w' : World} {A : Option Addr} {B most : Nat} {L M : List Sp} (h : Row2 w A L) (h' : Lin w B most M) (c : Chg w w' B) : Row2 w' A L := fun hn => by
  obtain ⟨b, o, e, hb, hr⟩ := h hn
  have hne := row_apart hr hn h'
  exact ⟨b, o, e, Nat.lt_of_lt_of_le hb c.size, fun j v hv => c.cell (hr j v hv) hne⟩
theorem Lin.chg {w w' : World} {B B' most most' : Nat} {L M : List Sp} (h : Lin w B most L) (h' : Lin w B' most' M) (c : Chg w w' B') (hne : B ≠ B') : Lin w' B most L := by
  obtain ⟨A, k, h0, h1, h2⟩ := h
  exact ⟨A, k, c.heap h0 hne, h1.chg h' c, h2⟩
end Go.Proofs.YtgljajoknmgoeaaGreat
