/- Where a day's things count, of every clock and day. -/
import Derived.Test.YtdacpiegfobhbaaPdFa
import Derived.Test.YtdacpiegfobhbaaPdFb
import Derived.Test.YtdacpiegfobhbaaPdFc
import Derived.Test.YtdacpiegfobhbaaPdFd
import Derived.Test.YtdacpiegfobhbaaPdFe
namespace Go.Proofs.Ytdacpiegfobhbaa
open Go.RowKit
set_option maxRecDepth 100000
set_option linter.unusedSimpArgs false
set_option linter.unusedVariables false

/-- what a call of Route tells: the error, what belongs, what counts -/
def Ck.rtE (c : Ck) (pl : Int) : Int := if pl < c.F then 30 else if c.A ≤ pl then 0 else if c.A < 8030 * Civ.many c.k then 0 else 70
def Ck.rtO (c : Ck) (pl : Int) : Value := if c.rtE pl = 0 then perV c.k pl else zeroP
def Ck.rtP (c : Ck) (pl : Int) : Value := if c.rtE pl = 0 then (if c.A ≤ pl then perV c.k pl else perV c.k c.A) else zeroP
theorem per_has (c : Ck) (ok : c.Ok) (pl : Int) (h0 : 0 ≤ pl) (h1 : pl < 8030 * Civ.many c.k) : c.Has (Civ.perK c.k pl) (Civ.perY c.k pl) (Civ.perI c.k pl) ↔ c.F ≤ pl := by
  obtain ⟨g1, g2, g3⟩ := Civ.per_good ok.kind h0 h1
  unfold Ck.Has
  rw [g3, g2]
  exact ⟨fun x => x.2.2, fun x => ⟨g1, rfl, x⟩⟩
theorem per_st (c : Ck) (ok : c.Ok) (pl : Int) (h0 : 0 ≤ pl) (h1 : pl < 8030 * Civ.many c.k) : c.st (Civ.perK c.k pl) (Civ.perY c.k pl) (Civ.perI c.k pl) = if c.F ≤ pl then (if pl < c.B then 3 else if pl < c.A then 2 else 1) else 0 := by
  obtain ⟨g1, g2, g3⟩ := Civ.per_good ok.kind h0 h1
  unfold Ck.st
  have := per_has c ok pl h0 h1
  by_cases q : c.F ≤ pl
  · rw [if_pos (this.2 q), if_pos q]
    rw [g3, g2]
  · rw [if_neg (fun x => q (this.1 x)), if_neg q]
theorem code_route_out (w : World) (P : Nat) (c : Ck) (n : Int) (h : CkAt w P c) (ok : c.Ok) (hn : n < 0 ∨ 2932896 < n) :
    Calls Try.prog 17 #[.pointer (some ⟨P, 0, none⟩), .int .i64 n] w fun e w' => e = .returned (.tuple #[zeroP, zeroP, .int .i64 30]) ∧ Below w.heap.size w w' :=
  route_out w P n 0 0 0 c.k (heapLt h) h.c3.1 (fun W hb => ok.made (h.on hb)) (fun W => code_of_no n c.k W hn)
theorem code_route_in (w : World) (P : Nat) (c : Ck) (n pl : Int) (h : CkAt w P c) (ok : c.Ok) (h0 : 0 ≤ pl) (h1 : pl < 8030 * Civ.many c.k)
    (ho : ∀ w, Calls Try.prog 28 #[.int .i64 n, .int .i64 c.k] w fun e w' => e = .returned (.tuple #[.agg #[.int .i64 c.k, .int .i64 (Civ.perY c.k pl), .int .i64 (Civ.perI c.k pl)], .int .i64 0]) ∧ Below w.heap.size w w') :
    Calls Try.prog 17 #[.pointer (some ⟨P, 0, none⟩), .int .i64 n] w fun e w' => e = .returned (.tuple #[c.rtP pl, c.rtO pl, .int .i64 (c.rtE pl)]) ∧ Below w.heap.size w w' := by
  obtain ⟨g1, g2, g3⟩ := Civ.per_good ok.kind h0 h1
  have hh := per_has c ok pl h0 h1
  have hs := per_st c ok pl h0 h1
  have ho' : ∀ w, Calls Try.prog 28 #[.int .i64 n, .int .i64 c.k] w fun e w' => e = .returned (.tuple #[.agg #[.int .i64 (Civ.perK c.k pl), .int .i64 (Civ.perY c.k pl), .int .i64 (Civ.perI c.k pl)], .int .i64 0]) ∧ Below w.heap.size w w' := by rw [g3]; exact ho
  have HM : ∀ W, Below w.heap.size w W → Calls Try.prog 37 #[.pointer (some ⟨P, 0, none⟩)] W fun e w' => e = .returned (.bool true) ∧ W = w' := fun W hb => ok.made (h.on hb)
  have HH : ∀ b, decide (c.F ≤ pl) = b → ∀ W, Below w.heap.size w W → Calls Try.prog 38 #[.pointer (some ⟨P, 0, none⟩), .agg #[.int .i64 (Civ.perK c.k pl), .int .i64 (Civ.perY c.k pl), .int .i64 (Civ.perI c.k pl)]] W fun e w' => e = .returned (.bool b) ∧ Below W.heap.size W w' := fun b hb W hW => by
    have := code_has W P c (Civ.perK c.k pl) (Civ.perY c.k pl) (Civ.perI c.k pl) (h.on hW) ok
    rw [decide_eq_decide.2 hh, hb] at this
    exact this
  have HS : ∀ s, c.st (Civ.perK c.k pl) (Civ.perY c.k pl) (Civ.perI c.k pl) = s → ∀ W, Below w.heap.size w W → Calls Try.prog 19 #[.pointer (some ⟨P, 0, none⟩), .agg #[.int .i64 (Civ.perK c.k pl), .int .i64 (Civ.perY c.k pl), .int .i64 (Civ.perI c.k pl)]] W fun e w' => e = .returned (.int .i64 s) ∧ Below W.heap.size W w' := fun s hs W hW => by
    have := code_state W P c (Civ.perK c.k pl) (Civ.perY c.k pl) (Civ.perI c.k pl) (h.on hW) ok
    rw [hs] at this
    exact this
  have HF := fun W (hW : Below w.heap.size w W) => code_first_ W P c (h.on hW) ok
  have hba := ok.ba
  have hfb := ok.fb
  by_cases q1 : pl < c.F
  · have e : c.rtE pl = 30 := if_pos q1
    unfold Ck.rtP Ck.rtO
    rw [e, if_neg (by decide), if_neg (by decide)]
    exact route_ahead w P n _ _ _ c.k (heapLt h) h.c3.1 HM ho' (HH false (decide_eq_false (by omega)))
  · rw [if_pos (show c.F ≤ pl by omega)] at hs
    by_cases q2 : c.A ≤ pl
    · have e : c.rtE pl = 0 := by unfold Ck.rtE; rw [if_neg q1, if_pos q2]
      unfold Ck.rtP Ck.rtO
      rw [e, if_pos rfl, if_pos rfl, if_pos q2]
      rw [if_neg (by omega), if_neg (by omega)] at hs
      exact route_same w P n _ _ _ c.k 1 rfl (heapLt h) h.c3.1 HM ho' (HH true (decide_eq_true (by omega))) (HS 1 hs)
    · have hs1 : ¬ c.st (Civ.perK c.k pl) (Civ.perY c.k pl) (Civ.perI c.k pl) = 1 := by
        rw [hs]
        by_cases q : pl < c.B
        · rw [if_pos q]; decide
        · rw [if_neg q, if_pos (by omega)]; decide
      by_cases q3 : c.A < 8030 * Civ.many c.k
      · have e : c.rtE pl = 0 := by unfold Ck.rtE; rw [if_neg q1, if_neg q2, if_pos q3]
        unfold Ck.rtP Ck.rtO
        rw [e, if_pos rfl, if_pos rfl, if_neg q2]
        have k0 : ¬ Civ.perK c.k c.A = 0 := by rw [(Civ.per_good ok.kind (by have := ok.f0; omega) q3).2.2]; exact ok.k0
        exact route_first w P n _ _ _ c.k _ _ _ _ hs1 k0 (heapLt h) h.c3.1 HM ho' (HH true (decide_eq_true (by omega))) (HS _ rfl) HF
      · have e : c.rtE pl = 70 := by unfold Ck.rtE; rw [if_neg q1, if_neg q2, if_neg q3]
        unfold Ck.rtP Ck.rtO
        rw [e, if_neg (by decide), if_neg (by decide)]
        obtain ⟨z1, z2, z3⟩ := Civ.per_none q3
        rw [z1, z2, z3] at HF
        exact route_none w P n _ _ _ c.k _ hs1 (heapLt h) h.c3.1 HM ho' (HH true (decide_eq_true (by omega))) (HS _ rfl) HF
end Go.Proofs.Ytdacpiegfobhbaa
