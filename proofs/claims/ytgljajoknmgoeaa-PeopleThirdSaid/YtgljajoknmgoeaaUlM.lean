/- Set, whatever is set; the chapter's example; the document's spans. -/
import Derived.Test.YtgljajoknmgoeaaUlL
namespace Go.Proofs.Ytgljajoknmgoeaa
open Go.RowKit
set_option maxRecDepth 100000

section
variable {w w' w'' : World} {B : Nat}
theorem Chg.of_below (h : Below w.heap.size w w') : Chg w w' B := ⟨h.os, h.tape, h.output, h.size, fun k hk _ => h.block k hk⟩
theorem Chg.trans (h : Chg w w' B) (k : Chg w' w'' B) : Chg w w'' B :=
  ⟨k.os.trans h.os, k.tape.trans h.tape, k.output.trans h.output, Nat.le_trans h.size k.size, fun i hi h1 => (k.block i (Nat.lt_of_lt_of_le hi h.size) h1).trans (h.block i hi h1)⟩
theorem Chg.below (h : Chg w w' B) {base : Nat} (h0 : base ≤ w.heap.size) (h1 : base ≤ B) : Below base w w' :=
  ⟨h.os, h.tape, h.output, h.size, fun k hk => h.block k (by omega) (by omega)⟩
end
/-- what 'Set' answers, and what it leaves -/
def setE (most : Nat) (L : List Sp) (f u : Int) : Int := if isSp f u then (if gapL f u L < u - f + 1 then 50 else if most ≤ L.length then 31 else 0) else 30
def setL (most : Nat) (L : List Sp) (p : Sp) : List Sp := if setE most L p.1 p.2.1 = 0 then insL L (pos p.1 L) p else L
theorem code_set (w : World) (B most : Nat) (L : List Sp) (f u x : Int) (h : Lin w B most L) :
    Calls Try.prog 39 #[.pointer (some ⟨B, 0, none⟩), .agg #[.int .i64 f, .int .i64 u], .agg #[]] w fun e w' => e = .returned (.int .i64 (setE most L f u)) ∧ Lin w' B most (setL most L (f, u, x)) ∧ Chg w w' B := by
  obtain ⟨A, c, h0⟩ := h
  have no : ∀ E : Int, E ≠ 0 → setE most L f u = E → setL most L (f, u, x) = L := fun E hE he => by unfold setL; rw [if_neg (by rw [he]; exact hE)]
  by_cases h1 : isSp f u
  · by_cases h2 : gapL f u L < u - f + 1
    · have he : setE most L f u = 50 := by unfold setE; rw [if_pos h1, if_pos h2]
      rw [no 50 (by decide) he, he]
      exact (set_no2 w B most c A L f u h0 (decide_eq_true h1) h2).mono fun e w' ⟨a, b⟩ => ⟨a, ⟨A, c, h0.on b⟩, .of_below b⟩
    · by_cases h3 : most ≤ L.length
      · have he : setE most L f u = 31 := by unfold setE; rw [if_pos h1, if_neg h2, if_pos h3]
        rw [no 31 (by decide) he, he]
        exact (set_no3 w B most c A L f u h0 (decide_eq_true h1) h2 h3).mono fun e w' ⟨a, b⟩ => ⟨a, ⟨A, c, h0.on b⟩, .of_below b⟩
      · have he : setE most L f u = 0 := by unfold setE; rw [if_pos h1, if_neg h2, if_neg h3]
        have hl : setL most L (f, u, x) = insL L (pos f L) (f, u, x) := by unfold setL; rw [if_pos he]
        rw [hl, he]
        exact set_yes w B most c A L f u x h0 (decide_eq_true h1) h2 h3
  · have he : setE most L f u = 30 := by unfold setE; rw [if_neg h1]
    rw [no 30 (by decide) he, he]
    exact (set_no1 w B most c A L f u h0 (decide_eq_false h1)).mono fun e w' ⟨a, b⟩ => ⟨a, ⟨A, c, h0.on b⟩, .of_below b⟩
/-- how many days, whatever is asked -/
def gapV (f u : Int) (L : List Sp) : Int := if isSp f u then gapL f u L else 0
theorem code_gap (w : World) (B most : Nat) (L : List Sp) (f u : Int) (h : Lin w B most L) : Calls Try.prog 58 #[.pointer (some ⟨B, 0, none⟩), .agg #[.int .i64 f, .int .i64 u]] w fun e w' => e = .returned (.int .i64 (gapV f u L)) ∧ Below w.heap.size w w' := by
  by_cases h1 : isSp f u
  · obtain ⟨A, c, h0⟩ := h
    rw [show gapV f u L = gapL f u L by unfold gapV; rw [if_pos h1]]
    exact code_gap_yes w B most c A L f u h0 (decide_eq_true h1)
  · rw [show gapV f u L = 0 by unfold gapV; rw [if_neg h1]]
    exact code_gap_no w B most L f u h (decide_eq_false h1)
end Go.Proofs.Ytgljajoknmgoeaa
