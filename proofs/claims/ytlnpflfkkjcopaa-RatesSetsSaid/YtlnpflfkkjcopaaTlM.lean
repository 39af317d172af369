/- Set, whatever is set; the chapter's example; the document's spans. -/
import Derived.Test.YtlnpflfkkjcopaaTlL
namespace Go.Proofs.Ytlnpflfkkjcopaa
open Go.RowKit
set_option maxRecDepth 100000

section
variable {w w' w'' : World} {B : Nat}
theorem Chg.of_below (h : Below w.heap.size w w') : Chg w w' B := ⟨h.os, h.tape, h.output, h.size, fun k hk _ => h.block k hk⟩
theorem Chg.trans (h : Chg w w' B) (k : Chg w' w'' B) : Chg w w'' B :=
  ⟨k.os.trans h.os, k.tape.trans h.tape, k.output.trans h.output, Nat.le_trans h.size k.size, fun i hi h1 => (k.block i (Nat.lt_of_lt_of_le hi h.size) h1).trans (h.block i hi h1)⟩
theorem Chg.below (h : Chg w w' B) {base : Nat} (h0 : base ≤ w.heap.size) (h1 : base ≤ B) : Below base w w' :=
  ⟨h.os, h.tape, h.output, h.size, fun k hk => h.block k (by omega) (by omega)⟩
end
/-- what 'Set' answers, and what it leaves -/
def setE (most : Nat) (L : List Sp) (f u : Int) : Int := if isSp f u then (if gapL f u L < u - f + 1 then 50 else if most ≤ L.length then 31 else 0) else 30
def setL (most : Nat) (L : List Sp) (p : Sp) : List Sp := if setE most L p.1 p.2.1 = 0 then insL L (pos p.1 L) p else L
theorem code_set (w : World) (B most : Nat) (L : List Sp) (f u x : Int) (h : Lin w B most L) :
    Calls Try.prog 12 #[.pointer (some ⟨B, 0, none⟩), .agg #[.int .i64 f, .int .i64 u], .int .i64 x] w fun e w' => e = .returned (.int .i64 (setE most L f u)) ∧ Lin w' B most (setL most L (f, u, x)) ∧ Chg w w' B := by
  obtain ⟨A, c, h0⟩ := h
  have no : ∀ E : Int, E ≠ 0 → setE most L f u = E → setL most L (f, u, x) = L := fun E hE he => by unfold setL; rw [if_neg (by rw [he]; exact hE)]
  by_cases h1 : isSp f u
  · by_cases h2 : gapL f u L < u - f + 1
    · have he : setE most L f u = 50 := by unfold setE; rw [if_pos h1, if_pos h2]
      rw [no 50 (by decide) he, he]
      exact (set_no2 w B most c A L f u x h0 (decide_eq_true h1) h2).mono fun e w' ⟨a, b⟩ => ⟨a, ⟨A, c, h0.on b⟩, .of_below b⟩
    · by_cases h3 : most ≤ L.length
      · have he : setE most L f u = 31 := by unfold setE; rw [if_pos h1, if_neg h2, if_pos h3]
        rw [no 31 (by decide) he, he]
        exact (set_no3 w B most c A L f u x h0 (decide_eq_true h1) h2 h3).mono fun e w' ⟨a, b⟩ => ⟨a, ⟨A, c, h0.on b⟩, .of_below b⟩
      · have he : setE most L f u = 0 := by unfold setE; rw [if_pos h1, if_neg h2, if_neg h3]
        have hl : setL most L (f, u, x) = insL L (pos f L) (f, u, x) := by unfold setL; rw [if_pos he]
        rw [hl, he]
        exact set_yes w B most c A L f u x h0 (decide_eq_true h1) h2 h3
  · have he : setE most L f u = 30 := by unfold setE; rw [if_neg h1]
    rw [no 30 (by decide) he, he]
    exact (set_no1 w B most c A L f u x h0 (decide_eq_false h1)).mono fun e w' ⟨a, b⟩ => ⟨a, ⟨A, c, h0.on b⟩, .of_below b⟩
/-- how many days, whatever is asked -/
def gapV (f u : Int) (L : List Sp) : Int := if isSp f u then gapL f u L else 0
theorem code_gap (w : World) (B most : Nat) (L : List Sp) (f u : Int) (h : Lin w B most L) : Calls Try.prog 15 #[.pointer (some ⟨B, 0, none⟩), .agg #[.int .i64 f, .int .i64 u]] w fun e w' => e = .returned (.int .i64 (gapV f u L)) ∧ Below w.heap.size w w' := by
  by_cases h1 : isSp f u
  · obtain ⟨A, c, h0⟩ := h
    rw [show gapV f u L = gapL f u L by unfold gapV; rw [if_pos h1]]
    exact code_gap_yes w B most c A L f u h0 (decide_eq_true h1)
  · rw [show gapV f u L = 0 by unfold gapV; rw [if_neg h1]]
    exact code_gap_no w B most L f u h (decide_eq_false h1)
theorem code_at' (w : World) (B most : Nat) (L : List Sp) (day : Int) (h : Lin w B most L) : Calls Try.prog 20 #[.pointer (some ⟨B, 0, none⟩), .int .i64 day] w fun e w' => e = .returned (.tuple #[.int .i64 (atX L day), .bool (atB L day)]) ∧ Below w.heap.size w w' := by
  obtain ⟨A, c, h0⟩ := h
  exact code_at w B most c A L day h0

set_option maxHeartbeats 1000000 in
theorem tl_lives (w : World) : Calls Try.prog 9 #[] w fun e w' => e = .returned (.bool true) ∧ Below w.heap.size w w' := by
  have HN := Lib.hid (code_lnew w 9 (by decide) (by decide))
  go_enter Try.func9, Try.ntmps9
  go_wp2_with (go_at_call 10; refine HN.out.mono ?_; rintro e w1 ⟨B, rfl, h1, hb1, hB⟩; have H1 := Lib.hid (And.intro h1 (And.intro hb1 hB)); clear h1 hb1 hB; refine Stop.out ?_)
  unfold Stop
  have HS1 : Hid (Calls Try.prog 12 #[.pointer (some ⟨B, 0, none⟩), .agg #[.int .i64 10, .int .i64 20], .int .i64 5] w1 fun e w' => e = .returned (.int .i64 0) ∧ Lin w' B 9 [(10, 20, 5)] ∧ Chg w1 w' B) := Lib.hid (code_set w1 B 9 [] 10 20 5 H1.out.1)
  go_wp2_with (go_at_call 12; refine HS1.out.mono ?_; rintro e w2 ⟨rfl, h2, hc2⟩; have H2 := Lib.hid (And.intro h2 hc2); clear h2 hc2; refine Stop.out ?_)
  unfold Stop
  have HA1 : Hid (Calls Try.prog 20 #[.pointer (some ⟨B, 0, none⟩), .int .i64 20] w2 fun e w' => e = .returned (.tuple #[.int .i64 5, .bool true]) ∧ Below w2.heap.size w2 w') := Lib.hid (code_at' w2 B 9 _ 20 H2.out.1)
  go_wp2_with (go_at_call 20; refine HA1.out.mono ?_; rintro e w3 ⟨rfl, hb3⟩; have H3 := Lib.hid (And.intro (H2.out.1.on hb3) (H2.out.2.trans (.of_below hb3))); clear hb3; refine Stop.out ?_)
  unfold Stop
  have HS2 : Hid (Calls Try.prog 12 #[.pointer (some ⟨B, 0, none⟩), .agg #[.int .i64 20, .int .i64 30], .int .i64 6] w3 fun e w' => e = .returned (.int .i64 50) ∧ Lin w' B 9 [(10, 20, 5)] ∧ Chg w3 w' B) := Lib.hid (code_set w3 B 9 [(10, 20, 5)] 20 30 6 H3.out.1)
  go_wp2_with (go_at_call 12; refine HS2.out.mono ?_; rintro e w4 ⟨rfl, h4, hc4⟩; have H4 := Lib.hid (And.intro h4 (H3.out.2.trans hc4)); clear h4 hc4; refine Stop.out ?_)
  unfold Stop
  have HG1 : Hid (Calls Try.prog 15 #[.pointer (some ⟨B, 0, none⟩), .agg #[.int .i64 0, .int .i64 29]] w4 fun e w' => e = .returned (.int .i64 19) ∧ Below w4.heap.size w4 w') := Lib.hid (code_gap w4 B 9 [(10, 20, 5)] 0 29 H4.out.1)
  go_wp2_with (go_at_call 15; refine HG1.out.mono ?_; rintro e w5 ⟨rfl, hb5⟩; have H5 := Lib.hid (H4.out.2.trans (.of_below hb5)); clear hb5; refine Stop.out ?_)
  unfold Stop
  go_wp2
  go_ret
  refine ⟨rfl, ?_⟩
  have := H1.out.2.1.size
  exact H1.out.2.1.trans (H5.out.below this H1.out.2.2)

/-! ### the document's -/
theorem ref_right (f u : Int) (w : World) : Calls Try.prog 42 #[.int .i64 f, .int .i64 u] w fun e w' => e = .returned (.bool (decide (isSp f u))) ∧ w = w' := by
  by_cases h1 : 0 ≤ f
  · by_cases h2 : u ≤ 2932896
    · by_cases h3 : f ≤ u
      · rw [decide_eq_true (show isSp f u from ⟨h1, h3, h2⟩)]
        go_enter Try.func42, Try.ntmps42
        go_wp2
        go_ret
        exact ⟨ret_bool (by simp), rfl⟩
      · rw [decide_eq_false (show ¬ isSp f u from fun h => h3 h.2.1)]
        go_enter Try.func42, Try.ntmps42
        go_wp2
        go_ret
        exact ⟨ret_bool (by simp), rfl⟩
    · rw [decide_eq_false (show ¬ isSp f u from fun h => h2 h.2.2)]
      go_enter Try.func42, Try.ntmps42
      go_wp2
      go_ret
      exact ⟨ret_bool (by simp), rfl⟩
  · rw [decide_eq_false (show ¬ isSp f u from fun h => h1 h.1)]
    go_enter Try.func42, Try.ntmps42
    go_wp2
    go_ret
    exact ⟨ret_bool (by simp), rfl⟩
theorem right_at {f u : Int} {q : Bool} (h : decide (isSp f u) = q) (w : World) : Calls Try.prog 42 #[.int .i64 f, .int .i64 u] w fun e w' => e = .returned (.bool q) ∧ w = w' := by
  rw [← h]
  exact ref_right f u w
end Go.Proofs.Ytlnpflfkkjcopaa
