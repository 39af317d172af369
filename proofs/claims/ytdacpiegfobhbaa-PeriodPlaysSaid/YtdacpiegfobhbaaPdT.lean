/- Whatever is closed and filed: the clock and the document's one, side by side. -/
import Derived.Test.YtdacpiegfobhbaaPdS
namespace Go.Proofs.Ytdacpiegfobhbaa
open Go.RowKit
set_option maxRecDepth 100000
set_option linter.unusedSimpArgs false
set_option linter.unusedVariables false

theorem isP (k n : Int) : ∃ a b c : Int, perV k n = .agg #[.int .i64 a, .int .i64 b, .int .i64 c] := ⟨_, _, _, rfl⟩
theorem routes_both (c : Ck) (ok : c.Ok) (n : Int) : ∃ p1 p2 p3 o1 o2 o3 er : Int,
    (∀ P W, CkAt W P c → Calls Try.prog 17 #[.pointer (some ⟨P, 0, none⟩), .int .i64 n] W fun e w' => e = .returned (.tuple #[.agg #[.int .i64 p1, .int .i64 p2, .int .i64 p3], .agg #[.int .i64 o1, .int .i64 o2, .int .i64 o3], .int .i64 er]) ∧ Below W.heap.size W w') ∧
    (∀ W, Calls Try.prog 18 #[.agg (cRow c), .int .i64 n] W fun e w' => e = .returned (.tuple #[.agg #[.int .i64 p1, .int .i64 p2, .int .i64 p3], .agg #[.int .i64 o1, .int .i64 o2, .int .i64 o3], .int .i64 er]) ∧ Below W.heap.size W w') := by
  by_cases hn : 0 ≤ n ∧ n ≤ 2932896
  · obtain ⟨pl, h0, h1, _, ho, hr⟩ := of_both n c.k ok.kind hn.1 hn.2
    have hO : ∃ a b d : Int, c.rtO pl = .agg #[.int .i64 a, .int .i64 b, .int .i64 d] := by
      unfold Ck.rtO
      by_cases q : c.rtE pl = 0
      · rw [if_pos q]; exact isP _ _
      · rw [if_neg q]; exact ⟨0, 0, 0, rfl⟩
    have hP : ∃ a b d : Int, c.rtP pl = .agg #[.int .i64 a, .int .i64 b, .int .i64 d] := by
      unfold Ck.rtP
      by_cases q : c.rtE pl = 0
      · rw [if_pos q]
        by_cases q2 : c.A ≤ pl
        · rw [if_pos q2]; exact isP _ _
        · rw [if_neg q2]; exact isP _ _
      · rw [if_neg q]; exact ⟨0, 0, 0, rfl⟩
    obtain ⟨o1, o2, o3, eO⟩ := hO
    obtain ⟨p1, p2, p3, eP⟩ := hP
    refine ⟨p1, p2, p3, o1, o2, o3, c.rtE pl, fun P W h => ?_, fun W => ?_⟩
    · have := code_route_in W P c n pl h ok h0 h1 ho
      rw [eO, eP] at this
      exact this
    · have := ref_route_in W c n pl ok h0 h1 hr
      rw [eO, eP] at this
      exact this
  · exact ⟨0, 0, 0, 0, 0, 0, 30, fun P W h => code_route_out W P c n h ok (by omega), fun W => ref_route_out W c n (by omega)⟩
theorem rows_of {w w' : World} {e : Ending} {k F : Int} {m : Nat} (h : ∃ v, e = .returned v ∧ OwnPerV w' w.heap.size v (persL k F m) ∧ Below w.heap.size w w') : ∃ A cp, e = .returned (.slice A (persL k F m).length cp) ∧ RowPerV w' A (persL k F m) ∧ Below w.heap.size w w' := by
  obtain ⟨v, rfl, ho, hb⟩ := h
  obtain ⟨A, cp, rfl, hr, _⟩ := ho.form
  exact ⟨A, cp, rfl, hr, hb⟩
theorem far_put5 {w : World} {g k : Nat} {a b c d e : Value} {o : Obj} (h : w.heap[k]? = some o) (hk : k ≠ g) : (((((w.setCell ⟨g, 0, none⟩ a).setCell ⟨g, 1, none⟩ b).setCell ⟨g, 2, none⟩ c).setCell ⟨g, 3, none⟩ d).setCell ⟨g, 4, none⟩ e).heap[k]? = some o :=
  far_cell (far_cell (far_cell (far_cell (far_cell h hk) hk) hk) hk) hk
/-- what the rounds keep: the clock and the document's one side by side -/
structure PlI (w : World) (G : Nat) (k F ak0 ak ay ai : Int) (P j : Nat) (c : Ck) (W : World) : Prop where
  at_ : CkAt W P c
  ok : c.Ok
  kk : c.k = k
  ff : c.F = F
  few : c.B - c.F ≤ (j : Int)
  clk : W.heap[G]? = some (.cells (cRow c) 31 (0, 0))
  ask : W.heap[w.heap.size]? = some (.cells #[.int .i64 ak0, .int .i64 ak, .int .i64 ay, .int .i64 ai] 26 (0, 0))
  low : Below w.heap.size w W
  pg : P ≠ G
  pa : w.heap.size < P
  ga : w.heap.size < G
set_option maxHeartbeats 16000000 in
theorem plays_walk (w : World) (k n when_ a0 ak ay ai : Int) (A : Option Addr) (L : List StepV) (cp : Nat) (hr : RowStepV w A L) (hl : L.length ≤ 60) (hk : Civ.isKind k) (h1 : 0 ≤ n) (h2 : n ≤ 2932896) :
    Calls Try.prog 3 #[.int .i64 k, .int .i64 n, .slice A L.length cp, .agg #[.int .i64 a0, .int .i64 ak, .int .i64 ay, .int .i64 ai], .int .i64 when_] w fun e w' => e = .returned (.bool true) ∧ Below w.heap.size w w' := by
  obtain ⟨F, f0, f1, _, ho, hrf⟩ := of_both n k hk h1 h2
  have HN := Lib.hid (fun w => new_ok k n F w hk f0 f1 ho)
  have HNr := Lib.hid (fun w => ref_new_ok w k n F hk hrf)
  have HO := Lib.hid (Ck.new_ok hk f0 f1)
  have HR := Lib.hid hr
  have HLv := Lib.hid lives27_any
  have hl' : ¬ (60 : Int) < (L.length : Int) := by omega
  have HL := Lib.hid hl
  have HA0 := Lib.hid (heap_alloc_new w (.cells #[.int .i64 a0, .int .i64 ak, .int .i64 ay, .int .i64 ai] 26))
  have HBA := Lib.hid (below_alloc w (.cells #[.int .i64 a0, .int .i64 ak, .int .i64 ay, .int .i64 ai] 26))
  obtain ⟨R0, hR0⟩ : ∃ R0, R0 = cRow (Ck.new k F) := ⟨_, rfl⟩
  clear hr hk h1 h2 f0 f1 ho hrf hl
  obtain ⟨f1, hf1⟩ : ∃ f1, f1 = Civ.perY k F := ⟨_, rfl⟩
  obtain ⟨f2, hf2⟩ : ∃ f2, f2 = Civ.perI k F := ⟨_, rfl⟩
  have HF := Lib.hid (And.intro hf1 hf2)
  have HNq : Hid (∀ W, Calls Try.prog 9 #[.int .i64 k, .int .i64 n] W fun e w' => e = .returned (.tuple #[.agg #[.int .i64 k, .int .i64 f1, .int .i64 f2, .int .i64 0, .int .i64 0], .bool true]) ∧ Below W.heap.size W w') := Lib.hid (fun W => by
    have := HNr.out W
    have e : cRow (Ck.new k F) = #[.int .i64 k, .int .i64 f1, .int .i64 f2, .int .i64 0, .int .i64 0] := by
      rw [hf1, hf2]
      unfold cRow Ck.new
      simp
    rw [e] at this
    exact this)
  have HRw : Hid (cRow (Ck.new k F) = #[.int .i64 k, .int .i64 f1, .int .i64 f2, .int .i64 0, .int .i64 0]) := Lib.hid (by
      rw [hf1, hf2]
      unfold cRow Ck.new
      simp)
  clear hf1 hf2 HNr hR0 R0
  go_enter Try.func3, Try.ntmps3
  go_wp2_with (go_at_call 8; refine (HN.out _).mono ?_; rintro e w1 ⟨P, rfl, hP, hc, hb⟩; have HC1 := Lib.hid hc; have HB1 := Lib.hid (below_then HBA.out hb); have HA1 := Lib.hid (heap_on hb HA0.out); have HPa : Hid (w.heap.size < P) := Lib.hid (by simp at hP; omega); clear hP hc hb; refine Stop.out ?_)
  unfold Stop
  clear hl'
  go_wp2_with (go_at_call 9; refine (HNq.out _).mono ?_; rintro e w2 ⟨rfl, hb⟩; have HC2 := Lib.hid (HC1.out.on hb); have HB2 := Lib.hid (below_then HB1.out hb); have HA2 := Lib.hid (heap_on hb HA1.out); clear hb; refine Stop.out ?_)
  unfold Stop
  have HI3 : Hid (PlI w w2.heap.size k F a0 ak ay ai P 0 (Ck.new k F) (w2.alloc (.cells #[.int .i64 k, .int .i64 f1, .int .i64 f2, .int .i64 0, .int .i64 0] 31))) := Lib.hid
    ⟨HC2.out.on (below_alloc _ _), HO.out, rfl, rfl, by show F - F ≤ ((0 : Nat) : Int); omega, by rw [HRw.out]; exact heap_alloc_new _ _, heap_on (below_alloc _ _) HA2.out, below_then HB2.out (below_alloc _ _), Nat.ne_of_lt (heapLt HC2.out), HPa.out, heapLt HA2.out⟩
  obtain ⟨G, hG⟩ : ∃ G, G = w2.heap.size := ⟨_, rfl⟩
  clear HC1 HB1 HA1 HA0 HBA HC2 HB2 HA2 HO HN HNq HRw HPa
  go_wp2_with fail
  rw [← hG] at HI3 ⊢
  go_loopw [11, 55] (fun q i wr => ∃ (j P : Nat) (c : Ck), j ≤ L.length ∧ i = .int .i64 (j : Nat) ∧ q = .pointer (some ⟨P, 0, none⟩) ∧ Hid (PlI w G k F a0 ak ay ai P j c wr)) (fun _ i _ => roundsLeft L.length i)
  case atStart => exact ⟨0, P, _, Nat.zero_le _, rfl, rfl, HI3⟩
  case round =>
    clear HI3 hG
    obtain ⟨j, P, c, hj, rfl, rfl, HI⟩ := hrel
    by_cases hlt : j < L.length
    · have hlt' : (j : Int) < (L.length : Int) := by omega
      have hw : wrap64 ((j : Int) + 1) = (j : Int) + 1 := wrapI _ (by omega) (by have := HL.out; omega)
      obtain ⟨b, o, rfl, hbl, y0, y1, y2, y3⟩ := (HR.out.on HI.out.low).at_ j hlt
      generalize hs0 : L[j].1 = s0 at y0
      generalize L[j].2.1 = pk at y1
      generalize L[j].2.2.1 = py at y2
      generalize L[j].2.2.2 = pi at y3
      obtain ⟨ca, hca⟩ : ∃ ca, ca = c.A - c.F := ⟨_, rfl⟩
      obtain ⟨cb, hcb⟩ : ∃ cb, cb = c.B - c.F := ⟨_, rfl⟩
      have HRow : Hid (cRow c = #[.int .i64 k, .int .i64 f1, .int .i64 f2, .int .i64 ca, .int .i64 cb]) := Lib.hid (by unfold cRow; rw [HI.out.kk, HI.out.ff, ← HF.out.1, ← HF.out.2, hca, hcb, HI.out.ff])
      have HOk := Lib.hid HI.out.ok
      have b0 := below_alloc wr (.cells #[.int .i64 s0, .int .i64 pk, .int .i64 py, .int .i64 pi] 26)
      have HX0 := Lib.hid (heap_alloc_new wr (.cells #[.int .i64 s0, .int .i64 pk, .int .i64 py, .int .i64 pi] 26))
      have HC0 := Lib.hid (HI.out.at_.on b0)
      have HG0 : Hid ((wr.alloc (.cells #[.int .i64 s0, .int .i64 pk, .int .i64 py, .int .i64 pi] 26)).heap[G]? = some (.cells #[.int .i64 k, .int .i64 f1, .int .i64 f2, .int .i64 ca, .int .i64 cb] 31 (0, 0))) := Lib.hid (by rw [← HRow.out]; exact heap_on b0 HI.out.clk)
      have HA0 := Lib.hid (heap_on b0 HI.out.ask)
      have HB0 := Lib.hid (below_any HI.out.low (Nat.le_refl _) b0)
      have HPg := Lib.hid HI.out.pg
      have HNe : Hid (wr.heap.size ≠ P ∧ wr.heap.size ≠ G ∧ wr.heap.size ≠ w.heap.size) := Lib.hid ⟨Nat.ne_of_gt (heapLt HI.out.at_), Nat.ne_of_gt (heapLt HI.out.clk), Nat.ne_of_gt (heapLt HI.out.ask)⟩
      have HPa := Lib.hid HI.out.pa
      have HGa := Lib.hid HI.out.ga
      have HKF := Lib.hid (And.intro HI.out.kk (And.intro HI.out.ff HI.out.few))
      have HCab := Lib.hid (And.intro hca hcb)
      have HJ := Lib.hid (And.intro hj hlt)
      have hlg : G < wr.heap.size := heapLt HI.out.clk
      clear hs0 hbl b0 HI hj hlt hca hcb
      by_cases h0 : s0 = 0
      · subst h0
        as_aux_lemma =>
          obtain ⟨er, her⟩ : ∃ er, er = c.clE pk py pi := ⟨_, rfl⟩
          have hk1 := Ck.cl_ok HOk.out pk py pi
          obtain ⟨da, hda⟩ : ∃ da, da = (c.cl pk py pi).A - (c.cl pk py pi).F := ⟨_, rfl⟩
          obtain ⟨db, hdb⟩ : ∃ db, db = (c.cl pk py pi).B - (c.cl pk py pi).F := ⟨_, rfl⟩
          have HRz : Hid (cRow (c.cl pk py pi) = #[.int .i64 k, .int .i64 f1, .int .i64 f2, .int .i64 da, .int .i64 db]) := Lib.hid (by unfold cRow; rw [hda, hdb, hk1.2.1, hk1.2.2.1, HKF.out.1, HKF.out.2.1, ← HF.out.1, ← HF.out.2])
          have HOp : Hid (∀ W, CkAt W P c → Calls Try.prog 12 #[.pointer (some ⟨P, 0, none⟩), .agg #[.int .i64 pk, .int .i64 py, .int .i64 pi]] W (StepP W P (c.cl pk py pi) er)) := Lib.hid (fun W h => by rw [her]; exact code_close W P c pk py pi h HOk.out)
          have HOd : Hid (∀ W, Calls Try.prog 13 #[.agg #[.int .i64 k, .int .i64 f1, .int .i64 f2, .int .i64 ca, .int .i64 cb], .agg #[.int .i64 pk, .int .i64 py, .int .i64 pi]] W fun e w' => e = .returned (.tuple #[.agg #[.int .i64 k, .int .i64 f1, .int .i64 f2, .int .i64 da, .int .i64 db], .int .i64 er]) ∧ Below W.heap.size W w') := Lib.hid (fun W => by have := ref_close W c HOk.out pk py pi; rw [HRow.out, HRz.out, ← her] at this; exact this)
          have HKFz : Hid ((c.cl pk py pi).k = k ∧ (c.cl pk py pi).F = F ∧ (c.cl pk py pi).B - (c.cl pk py pi).F ≤ ((j + 1 : Nat) : Int)) := Lib.hid ⟨hk1.2.1.trans HKF.out.1, hk1.2.2.1.trans HKF.out.2.1, by have h7 := hk1.2.2.2; have h8 := HKF.out.2.2; rw [hk1.2.2.1]; omega⟩
          have HOkz := Lib.hid hk1.1
          have HPgz := HPg
          have HPaz := HPa
          clear her hk1 hda hdb
          go_wp2_with (go_at_call 12; refine (HOp.out _ HC0.out).mono ?_; rintro e w5 hs; have HX5 := Lib.hid (hs.on HX0.out HNe.out.1); have HA5 := Lib.hid (hs.on HA0.out (Nat.ne_of_lt HPa.out)); have HG5 := Lib.hid (hs.on HG0.out HPg.out.symm); have HC5 := Lib.hid hs.2.1; have HB5 := Lib.hid (HB0.out.trans (hs.2.2.below (base := w.heap.size) HB0.out.size (Nat.le_of_lt HPa.out))); obtain rfl := hs.1; clear hs; refine Stop.out ?_)
          unfold Stop
          clear y0 y1 y2 y3
          obtain ⟨x0, x1, x2, x3⟩ := cells4_row HX5.out
          obtain ⟨g0, g1, g2, g3, g4⟩ := cells5_row HG5.out
          go_wp2_with (go_at_call 13; refine (HOd.out _).mono ?_; rintro e w6 ⟨rfl, hb⟩; have HX6 := Lib.hid (heap_on hb HX5.out); have HA6 := Lib.hid (heap_on hb HA5.out); have HG6 := Lib.hid (heap_on hb HG5.out); have HC6 := Lib.hid (HC5.out.on hb); have HB6 := Lib.hid (below_any HB5.out (Nat.le_refl _) hb); clear hb; refine Stop.out ?_)
          unfold Stop
          clear x0 x1 x2 x3 g0 g1 g2 g3 g4
          obtain ⟨g0, g1, g2, g3, g4⟩ := cells5_row HG6.out
          obtain ⟨e0, e1, e2, e3, e4⟩ := frozen5_row HG6.out
          have HXz := Lib.hid (far_put5 (a := .int .i64 k) (b := .int .i64 f1) (c := .int .i64 f2) (d := .int .i64 da) (e := .int .i64 db) HX6.out HNe.out.2.1)
          have HAz := Lib.hid (far_put5 (a := .int .i64 k) (b := .int .i64 f1) (c := .int .i64 f2) (d := .int .i64 da) (e := .int .i64 db) HA6.out (Nat.ne_of_lt HGa.out))
          have HCz : Hid (CkAt _ P (c.cl pk py pi)) := Lib.hid (far_put5 (a := .int .i64 k) (b := .int .i64 f1) (c := .int .i64 f2) (d := .int .i64 da) (e := .int .i64 db) HC6.out HPg.out)
          have HGz := Lib.hid (put5_row (.int .i64 k) (.int .i64 f1) (.int .i64 f2) (.int .i64 da) (.int .i64 db) HG6.out)
          have HBz := Lib.hid (below_put5 (a := .int .i64 k) (b := .int .i64 f1) (c := .int .i64 f2) (d := .int .i64 da) (e := .int .i64 db) HB6.out (Nat.le_of_lt HGa.out))
          have ok1 : (c.cl pk py pi).Ok := HOkz.out
          have HRow1 : Hid (cRow (c.cl pk py pi) = #[.int .i64 k, .int .i64 f1, .int .i64 f2, .int .i64 da, .int .i64 db]) := HRz
          obtain ⟨p1, p2, p3, o1, o2, o3, re, hrc, hrd⟩ := routes_both (c.cl pk py pi) ok1 when_
          rw [HRow1.out] at hrd
          have HRc := Lib.hid (hrc P)
          have HRd := Lib.hid hrd
          obtain ⟨v1, hv1⟩ : ∃ v1, v1 = (c.cl pk py pi).st ak ay ai := ⟨_, rfl⟩
          obtain ⟨v2, hv2⟩ : ∃ v2, v2 = (c.cl pk py pi).st pk py pi := ⟨_, rfl⟩
          have HS1 : Hid (∀ W, CkAt W P (c.cl pk py pi) → Calls Try.prog 19 #[.pointer (some ⟨P, 0, none⟩), .agg #[.int .i64 ak, .int .i64 ay, .int .i64 ai]] W fun e w' => e = .returned (.int .i64 v1) ∧ Below W.heap.size W w') := Lib.hid (fun W h => by rw [hv1]; exact code_state W _ _ _ _ _ h ok1)
          have HS2 : Hid (∀ W, Calls Try.prog 20 #[.agg #[.int .i64 k, .int .i64 f1, .int .i64 f2, .int .i64 da, .int .i64 db], .agg #[.int .i64 ak, .int .i64 ay, .int .i64 ai]] W fun e w' => e = .returned (.int .i64 v1) ∧ Below W.heap.size W w') := Lib.hid (fun W => by have := ref_state W _ ok1 ak ay ai; rw [HRow1.out, ← hv1] at this; exact this)
          have HS3 : Hid (∀ W, CkAt W P (c.cl pk py pi) → Calls Try.prog 19 #[.pointer (some ⟨P, 0, none⟩), .agg #[.int .i64 pk, .int .i64 py, .int .i64 pi]] W fun e w' => e = .returned (.int .i64 v2) ∧ Below W.heap.size W w') := Lib.hid (fun W h => by rw [hv2]; exact code_state W _ _ _ _ _ h ok1)
          have HS4 : Hid (∀ W, Calls Try.prog 20 #[.agg #[.int .i64 k, .int .i64 f1, .int .i64 f2, .int .i64 da, .int .i64 db], .agg #[.int .i64 pk, .int .i64 py, .int .i64 pi]] W fun e w' => e = .returned (.int .i64 v2) ∧ Below W.heap.size W w') := Lib.hid (fun W => by have := ref_state W _ ok1 pk py pi; rw [HRow1.out, ← hv2] at this; exact this)
          obtain ⟨q1, q2, q3, hq1, hq2⟩ : ∃ q1 q2 q3 : Int, (∀ W, CkAt W P (c.cl pk py pi) → Calls Try.prog 21 #[.pointer (some ⟨P, 0, none⟩)] W fun e w' => e = .returned (.agg #[.int .i64 q1, .int .i64 q2, .int .i64 q3]) ∧ Below W.heap.size W w') ∧ (∀ W, Calls Try.prog 10 #[.agg #[.int .i64 k, .int .i64 f1, .int .i64 f2, .int .i64 da, .int .i64 db]] W fun e w' => e = .returned (.agg #[.int .i64 q1, .int .i64 q2, .int .i64 q3]) ∧ Below W.heap.size W w') :=
            ⟨_, _, _, fun W h => code_first_ W _ _ h ok1, fun W => by have := ref_first27 W _ ok1; rw [HRow1.out] at this; exact this⟩
          have HF1 := Lib.hid hq1
          have HF2 := Lib.hid hq2
          have HKd : Hid (∀ W, CkAt W P (c.cl pk py pi) → Calls Try.prog 22 #[.pointer (some ⟨P, 0, none⟩)] W fun e w' => e = .returned (.int .i64 k) ∧ W = w') := Lib.hid (fun W h => by have := code_kind_ W _ _ h ok1; rw [show (c.cl pk py pi).k = k from HKFz.out.1] at this; exact this)
          have hfew : (c.cl pk py pi).B - (c.cl pk py pi).F ≤ ((j + 1 : Nat) : Int) := HKFz.out.2.2
          obtain ⟨mm, hmm⟩ : ∃ mm : Nat, (c.cl pk py pi).F + mm = (c.cl pk py pi).B := ⟨((c.cl pk py pi).B - (c.cl pk py pi).F).toNat, by have := ok1.fb; omega⟩
          obtain ⟨LL, hLL⟩ : ∃ LL, LL = persL (c.cl pk py pi).k (c.cl pk py pi).F mm := ⟨_, rfl⟩
          have hm9 : mm ≤ 900 := by have := HL.out; have := HJ.out.2; omega
          have HLl : Hid (LL.length ≤ 1000) := Lib.hid (by rw [hLL, persL_len]; omega)
          have HFl : Hid (∀ W, CkAt W P (c.cl pk py pi) → Calls Try.prog 24 #[.pointer (some ⟨P, 0, none⟩)] W fun e w' => ∃ A cp, e = .returned (.slice A LL.length cp) ∧ RowPerV w' A LL ∧ Below W.heap.size W w') := Lib.hid (fun W h => by rw [hLL]; exact (code_filed W _ _ h ok1 mm hmm hm9).mono fun e w' q => rows_of q)
          have HAl : Hid (∀ W, Calls Try.prog 25 #[.agg #[.int .i64 k, .int .i64 f1, .int .i64 f2, .int .i64 da, .int .i64 db]] W fun e w' => ∃ A cp, e = .returned (.slice A LL.length cp) ∧ RowPerV w' A LL ∧ Below W.heap.size W w') := Lib.hid (fun W => by rw [hLL]; have := ref_all W _ ok1 mm hmm hm9; rw [HRow1.out] at this; exact this.mono fun e w' q => rows_of q)
          have HOk1 := Lib.hid ok1
          clear ok1 hrc hrd hv1 hv2 hq1 hq2 hfew hmm hLL hm9
          go_wp2_with (go_at_call 17; refine (HRc.out _ HCz.out).mono ?_; rintro e w8 ⟨rfl, hb⟩; have HC8 := Lib.hid (HCz.out.on hb); have HG8 := Lib.hid (heap_on hb HGz.out); have HA8 := Lib.hid (heap_on hb HAz.out); have HX8 := Lib.hid (heap_on hb HXz.out); have HB8 := Lib.hid (below_any HBz.out (Nat.le_refl _) hb); clear hb; refine Stop.out ?_)
          unfold Stop
          clear g0 g1 g2 g3 g4 e0 e1 e2 e3 e4
          have b8 := below_then (below_alloc w8 (.cells #[.int .i64 p1, .int .i64 p2, .int .i64 p3] 24)) (below_alloc _ (.cells #[.int .i64 o1, .int .i64 o2, .int .i64 o3] 24))
          have HC8b := Lib.hid (HC8.out.on b8)
          have HG8b := Lib.hid (heap_on b8 HG8.out)
          have HA8b := Lib.hid (heap_on b8 HA8.out)
          have HX8b := Lib.hid (heap_on b8 HX8.out)
          have HB8b := Lib.hid (below_any HB8.out (Nat.le_refl _) b8)
          have HP8b := Lib.hid (heap_on (below_alloc _ (.cells #[.int .i64 o1, .int .i64 o2, .int .i64 o3] 24)) (heap_alloc_new w8 (.cells #[.int .i64 p1, .int .i64 p2, .int .i64 p3] 24)))
          have HO8b := Lib.hid (heap_alloc_new2 w8 (.cells #[.int .i64 p1, .int .i64 p2, .int .i64 p3] 24) (.cells #[.int .i64 o1, .int .i64 o2, .int .i64 o3] 24))
          have hz8 : G < w8.heap.size := heapLt HG8.out
          clear b8
          obtain ⟨g0, g1, g2, g3, g4⟩ := cells5_row HG8.out
          go_wp2_with (go_at_call 18; refine (HRd.out _).mono ?_; rintro e w9 ⟨rfl, hb⟩; have HC9 := Lib.hid (HC8b.out.on hb); have HG9 := Lib.hid (heap_on hb HG8b.out); have HA9 := Lib.hid (heap_on hb HA8b.out); have HX9 := Lib.hid (heap_on hb HX8b.out); have HB9 := Lib.hid (below_any HB8b.out (Nat.le_refl _) hb); have HP9 := Lib.hid (heap_on hb HP8b.out); have HO9 := Lib.hid (heap_on hb HO8b.out); clear hb; refine Stop.out ?_)
          unfold Stop
          clear g0 g1 g2 g3 g4 hz8
          have b9 := below_then (below_alloc w9 (.cells #[.int .i64 p1, .int .i64 p2, .int .i64 p3] 24)) (below_alloc _ (.cells #[.int .i64 o1, .int .i64 o2, .int .i64 o3] 24))
          have HCd := Lib.hid (HC9.out.on b9.drew)
          have HGd := Lib.hid (heap_on b9.drew HG9.out)
          have HAd := Lib.hid (heap_on b9.drew HA9.out)
          have HXd := Lib.hid (heap_on b9.drew HX9.out)
          have HBd := Lib.hid (below_any HB9.out (Nat.le_refl _) b9).drew
          have hS := And.intro (heap_on b9.drew HP9.out) (And.intro (heap_on b9.drew HO9.out) (And.intro (heap_on (below_alloc _ (.cells #[.int .i64 o1, .int .i64 o2, .int .i64 o3] 24)) (heap_alloc_new w9 (.cells #[.int .i64 p1, .int .i64 p2, .int .i64 p3] 24))) (heap_alloc_new2 w9 (.cells #[.int .i64 p1, .int .i64 p2, .int .i64 p3] 24) (.cells #[.int .i64 o1, .int .i64 o2, .int .i64 o3] 24))))
          have hA := cells4_row HAd.out
          have hX := cells4_row HXd.out
          have HS := Lib.hid (And.intro hA.2.1 (And.intro hA.2.2.1 (And.intro hA.2.2.2 (And.intro hX.2.1 (And.intro hX.2.2.1 (And.intro hX.2.2.2 (And.intro HGd.out hS)))))))
          clear b9 hS hA hX
          go_wp2_with fail
          refine wp_region_held_drew (S := fun W => W.cell? ⟨w.heap.size, 1, none⟩ = some (.int .i64 ak) ∧ W.cell? ⟨w.heap.size, 2, none⟩ = some (.int .i64 ay) ∧ W.cell? ⟨w.heap.size, 3, none⟩ = some (.int .i64 ai) ∧ W.cell? ⟨wr.heap.size, 1, none⟩ = some (.int .i64 pk) ∧ W.cell? ⟨wr.heap.size, 2, none⟩ = some (.int .i64 py) ∧ W.cell? ⟨wr.heap.size, 3, none⟩ = some (.int .i64 pi) ∧ W.heap[G]? = some (.cells #[.int .i64 k, .int .i64 f1, .int .i64 f2, .int .i64 da, .int .i64 db] 31 (0, 0)) ∧ W.heap[w8.heap.size]? = some (.cells #[.int .i64 p1, .int .i64 p2, .int .i64 p3] 24 (0, 0)) ∧ W.heap[(w8.heap.size + 1)]? = some (.cells #[.int .i64 o1, .int .i64 o2, .int .i64 o3] 24 (0, 0)) ∧ W.heap[w9.heap.size]? = some (.cells #[.int .i64 p1, .int .i64 p2, .int .i64 p3] 24 (0, 0)) ∧ W.heap[(w9.heap.size + 1)]? = some (.cells #[.int .i64 o1, .int .i64 o2, .int .i64 o3] 24 (0, 0))) (by kernel_rfl) HS.out ?_
          intro hHeld
          clear HS
          generalize ((w9.alloc (.cells #[.int .i64 p1, .int .i64 p2, .int .i64 p3] 24)).alloc (.cells #[.int .i64 o1, .int .i64 o2, .int .i64 o3] 24)).drew = wd at HBd HCd HGd HAd HXd hHeld ⊢
          (refine takeH (i := 0) (v := ?_) rfl (by kernel_rfl) (by kernel_rfl) (by kernel_rfl) (fun _ _ _ h => h) (Or.inl ⟨by rfl, ?_⟩) (by assumption) ?_; rotate_left; (focus ((intro wS hSw); (try dsimp only at hSw); obtain ⟨s0, s1, s2, s3, s4, s5, s6, s7, s8, s9, s10⟩ := hSw; go_simp; (try with_reducible rfl); done)); (try simp only [Act.put, List.setIfInBounds_toArray, List.set_cons_zero, List.set_cons_succ]))
          (refine takeH (i := 1) (v := ?_) rfl (by kernel_rfl) (by kernel_rfl) (by kernel_rfl) (fun _ _ _ h => h) (Or.inl ⟨by rfl, ?_⟩) (by assumption) ?_; rotate_left; (focus ((intro wS hSw); (try dsimp only at hSw); obtain ⟨s0, s1, s2, s3, s4, s5, s6, s7, s8, s9, s10⟩ := hSw; go_simp; (try with_reducible rfl); done)); (try simp only [Act.put, List.setIfInBounds_toArray, List.set_cons_zero, List.set_cons_succ]))
          (refine takeH (i := 2) (v := ?_) rfl (by kernel_rfl) (by kernel_rfl) (by kernel_rfl) (fun _ _ _ h => h) (Or.inl ⟨by rfl, ?_⟩) (by assumption) ?_; rotate_left; (focus ((intro wS hSw); (try dsimp only at hSw); obtain ⟨s0, s1, s2, s3, s4, s5, s6, s7, s8, s9, s10⟩ := hSw; go_simp; (try with_reducible rfl); done)); (try simp only [Act.put, List.setIfInBounds_toArray, List.set_cons_zero, List.set_cons_succ]))
          (refine takeH (i := 3) (v := ?_) rfl (by kernel_rfl) (by kernel_rfl) (by kernel_rfl) (fun _ _ _ h => h) (Or.inl ⟨by rfl, ?_⟩) (by assumption) ?_; rotate_left; (focus ((intro wS hSw); (try dsimp only at hSw); obtain ⟨s0, s1, s2, s3, s4, s5, s6, s7, s8, s9, s10⟩ := hSw; go_simp; (try with_reducible rfl); done)); (try simp only [Act.put, List.setIfInBounds_toArray, List.set_cons_zero, List.set_cons_succ]))
          (refine takeH (i := 4) (v := ?_) rfl (by kernel_rfl) (by kernel_rfl) (by kernel_rfl) (fun _ _ _ h => h) (Or.inl ⟨by rfl, ?_⟩) (by assumption) ?_; rotate_left; (focus ((intro wS hSw); (try dsimp only at hSw); obtain ⟨s0, s1, s2, s3, s4, s5, s6, s7, s8, s9, s10⟩ := hSw; go_simp; (try with_reducible rfl); done)); (try simp only [Act.put, List.setIfInBounds_toArray, List.set_cons_zero, List.set_cons_succ]))
          (refine takeH (i := 5) (v := ?_) rfl (by kernel_rfl) (by kernel_rfl) (by kernel_rfl) (fun _ _ _ h => h) (Or.inl ⟨by rfl, ?_⟩) (by assumption) ?_; rotate_left; (focus ((intro wS hSw); (try dsimp only at hSw); obtain ⟨s0, s1, s2, s3, s4, s5, s6, s7, s8, s9, s10⟩ := hSw; go_simp; (try with_reducible rfl); done)); (try simp only [Act.put, List.setIfInBounds_toArray, List.set_cons_zero, List.set_cons_succ]))
          (refine takeH (i := 6) (v := ?_) rfl (by kernel_rfl) (by kernel_rfl) (by kernel_rfl) (fun _ _ _ h => h) (Or.inl ⟨by rfl, ?_⟩) (by assumption) ?_; rotate_left; (focus ((intro wS hSw); (try dsimp only at hSw); obtain ⟨s0, s1, s2, s3, s4, s5, s6, s7, s8, s9, s10⟩ := hSw; go_simp; (try with_reducible rfl); done)); (try simp only [Act.put, List.setIfInBounds_toArray, List.set_cons_zero, List.set_cons_succ]))
          (refine takeH (i := 8) (v := (.agg #[.int .i64 k, .int .i64 f1, .int .i64 f2, .int .i64 da, .int .i64 db])) rfl (by kernel_rfl) (by kernel_rfl) (by kernel_rfl) (fun _ _ _ h => h) (yieldsIf_load_rowE (by rfl) 31 (.tmp 12) rfl G rfl 31 #[.int .i64 k, .int .i64 f1, .int .i64 f2, .int .i64 da, .int .i64 db] (0, 0) _ (fun W h => h.2.2.2.2.2.2.1) Try.underlying31 rfl (by kernel_rfl)) (by assumption) ?_; (try simp only [Act.put, List.setIfInBounds_toArray, List.set_cons_zero, List.set_cons_succ]))
          (refine takeH (i := 9) (v := ?_) rfl (by kernel_rfl) (by kernel_rfl) (by kernel_rfl) (fun _ _ _ h => h) (Or.inl ⟨by rfl, ?_⟩) (by assumption) ?_; rotate_left; (focus ((intro wS hSw); (try dsimp only at hSw); obtain ⟨s0, s1, s2, s3, s4, s5, s6, s7, s8, s9, s10⟩ := hSw; go_simp; (try with_reducible rfl); done)); (try simp only [Act.put, List.setIfInBounds_toArray, List.set_cons_zero, List.set_cons_succ]))
          (refine takeH (i := 10) (v := ?_) rfl (by kernel_rfl) (by kernel_rfl) (by kernel_rfl) (fun _ _ _ h => h) (Or.inl ⟨by rfl, ?_⟩) (by assumption) ?_; rotate_left; (focus ((intro wS hSw); (try dsimp only at hSw); obtain ⟨s0, s1, s2, s3, s4, s5, s6, s7, s8, s9, s10⟩ := hSw; go_simp; (try with_reducible rfl); done)); (try simp only [Act.put, List.setIfInBounds_toArray, List.set_cons_zero, List.set_cons_succ]))
          refine aloneH (i := 7) rfl (by kernel_rfl) (fun K hK => ?_)
          rw [if_pos (by rfl)]
          go_simp; ((refine (HS1.out _ (HCd.out.on (Below.refl _ wd))).mono ?_); (rintro e w11 ⟨rfl, hb⟩); have HB1 := Lib.hid hb; clear hb; (try go_simp))
          refine hK.out _ _ (⟨cell_on HB1.out hHeld.1, cell_on HB1.out hHeld.2.1, cell_on HB1.out hHeld.2.2.1, cell_on HB1.out hHeld.2.2.2.1, cell_on HB1.out hHeld.2.2.2.2.1, cell_on HB1.out hHeld.2.2.2.2.2.1, heap_on HB1.out hHeld.2.2.2.2.2.2.1, heap_on HB1.out hHeld.2.2.2.2.2.2.2.1, heap_on HB1.out hHeld.2.2.2.2.2.2.2.2.1, heap_on HB1.out hHeld.2.2.2.2.2.2.2.2.2.1, heap_on HB1.out hHeld.2.2.2.2.2.2.2.2.2.2⟩) (fun hNew => ?_)
          clear hK K hHeld; (have hHeld := hNew); clear hNew; (try simp only [Act.put, List.setIfInBounds_toArray, List.set_cons_zero, List.set_cons_succ])
          refine aloneH (i := 11) rfl (by kernel_rfl) (fun K hK => ?_)
          rw [if_pos (by rfl)]
          go_simp; ((refine (HS2.out _).mono ?_); (rintro e w12 ⟨rfl, hb⟩); have HB2 := Lib.hid hb; clear hb; (try go_simp))
          refine hK.out _ _ (⟨cell_on HB2.out hHeld.1, cell_on HB2.out hHeld.2.1, cell_on HB2.out hHeld.2.2.1, cell_on HB2.out hHeld.2.2.2.1, cell_on HB2.out hHeld.2.2.2.2.1, cell_on HB2.out hHeld.2.2.2.2.2.1, heap_on HB2.out hHeld.2.2.2.2.2.2.1, heap_on HB2.out hHeld.2.2.2.2.2.2.2.1, heap_on HB2.out hHeld.2.2.2.2.2.2.2.2.1, heap_on HB2.out hHeld.2.2.2.2.2.2.2.2.2.1, heap_on HB2.out hHeld.2.2.2.2.2.2.2.2.2.2⟩) (fun hNew => ?_)
          clear hK K hHeld; (have hHeld := hNew); clear hNew; (try simp only [Act.put, List.setIfInBounds_toArray, List.set_cons_zero, List.set_cons_succ])
          (refine takeH (i := 12) (v := ?_) rfl (by kernel_rfl) (by kernel_rfl) (by kernel_rfl) (fun _ _ _ h => h) (Or.inl ⟨by rfl, ?_⟩) (by assumption) ?_; rotate_left; (focus ((intro wS hSw); (try dsimp only at hSw); obtain ⟨s0, s1, s2, s3, s4, s5, s6, s7, s8, s9, s10⟩ := hSw; go_simp; (try with_reducible rfl); done)); (try simp only [Act.put, List.setIfInBounds_toArray, List.set_cons_zero, List.set_cons_succ]))
          (refine takeH (i := 13) (v := ?_) rfl (by kernel_rfl) (by kernel_rfl) (by kernel_rfl) (fun _ _ _ h => h) (Or.inl ⟨by rfl, ?_⟩) (by assumption) ?_; rotate_left; (focus ((intro wS hSw); (try dsimp only at hSw); obtain ⟨s0, s1, s2, s3, s4, s5, s6, s7, s8, s9, s10⟩ := hSw; go_simp; (try with_reducible rfl); done)); (try simp only [Act.put, List.setIfInBounds_toArray, List.set_cons_zero, List.set_cons_succ]))
          (refine takeH (i := 14) (v := ?_) rfl (by kernel_rfl) (by kernel_rfl) (by kernel_rfl) (fun _ _ _ h => h) (Or.inl ⟨by rfl, ?_⟩) (by assumption) ?_; rotate_left; (focus ((intro wS hSw); (try dsimp only at hSw); obtain ⟨s0, s1, s2, s3, s4, s5, s6, s7, s8, s9, s10⟩ := hSw; go_simp; (try with_reducible rfl); done)); (try simp only [Act.put, List.setIfInBounds_toArray, List.set_cons_zero, List.set_cons_succ]))
          (refine takeH (i := 15) (v := ?_) rfl (by kernel_rfl) (by kernel_rfl) (by kernel_rfl) (fun _ _ _ h => h) (Or.inl ⟨by rfl, ?_⟩) (by assumption) ?_; rotate_left; (focus ((intro wS hSw); (try dsimp only at hSw); obtain ⟨s0, s1, s2, s3, s4, s5, s6, s7, s8, s9, s10⟩ := hSw; go_simp; (try with_reducible rfl); done)); (try simp only [Act.put, List.setIfInBounds_toArray, List.set_cons_zero, List.set_cons_succ]))
          (refine takeH (i := 16) (v := ?_) rfl (by kernel_rfl) (by kernel_rfl) (by kernel_rfl) (fun _ _ _ h => h) (Or.inl ⟨by rfl, ?_⟩) (by assumption) ?_; rotate_left; (focus ((intro wS hSw); (try dsimp only at hSw); obtain ⟨s0, s1, s2, s3, s4, s5, s6, s7, s8, s9, s10⟩ := hSw; go_simp; (try with_reducible rfl); done)); (try simp only [Act.put, List.setIfInBounds_toArray, List.set_cons_zero, List.set_cons_succ]))
          (refine takeH (i := 17) (v := ?_) rfl (by kernel_rfl) (by kernel_rfl) (by kernel_rfl) (fun _ _ _ h => h) (Or.inl ⟨by rfl, ?_⟩) (by assumption) ?_; rotate_left; (focus ((intro wS hSw); (try dsimp only at hSw); obtain ⟨s0, s1, s2, s3, s4, s5, s6, s7, s8, s9, s10⟩ := hSw; go_simp; (try with_reducible rfl); done)); (try simp only [Act.put, List.setIfInBounds_toArray, List.set_cons_zero, List.set_cons_succ]))
          (refine takeH (i := 19) (v := (.agg #[.int .i64 k, .int .i64 f1, .int .i64 f2, .int .i64 da, .int .i64 db])) rfl (by kernel_rfl) (by kernel_rfl) (by kernel_rfl) (fun _ _ _ h => h) (yieldsIf_load_rowE (by rfl) 31 (.tmp 12) rfl G rfl 31 #[.int .i64 k, .int .i64 f1, .int .i64 f2, .int .i64 da, .int .i64 db] (0, 0) _ (fun W h => h.2.2.2.2.2.2.1) Try.underlying31 rfl (by kernel_rfl)) (by assumption) ?_; (try simp only [Act.put, List.setIfInBounds_toArray, List.set_cons_zero, List.set_cons_succ]))
          (refine takeH (i := 20) (v := ?_) rfl (by kernel_rfl) (by kernel_rfl) (by kernel_rfl) (fun _ _ _ h => h) (Or.inl ⟨by rfl, ?_⟩) (by assumption) ?_; rotate_left; (focus ((intro wS hSw); (try dsimp only at hSw); obtain ⟨s0, s1, s2, s3, s4, s5, s6, s7, s8, s9, s10⟩ := hSw; go_simp; (try with_reducible rfl); done)); (try simp only [Act.put, List.setIfInBounds_toArray, List.set_cons_zero, List.set_cons_succ]))
          (refine takeH (i := 21) (v := ?_) rfl (by kernel_rfl) (by kernel_rfl) (by kernel_rfl) (fun _ _ _ h => h) (Or.inl ⟨by rfl, ?_⟩) (by assumption) ?_; rotate_left; (focus ((intro wS hSw); (try dsimp only at hSw); obtain ⟨s0, s1, s2, s3, s4, s5, s6, s7, s8, s9, s10⟩ := hSw; go_simp; (try with_reducible rfl); done)); (try simp only [Act.put, List.setIfInBounds_toArray, List.set_cons_zero, List.set_cons_succ]))
          refine aloneH (i := 18) rfl (by kernel_rfl) (fun K hK => ?_)
          rw [if_pos (by rfl)]
          go_simp; ((refine (HS3.out _ (HCd.out.on (below_then HB1.out HB2.out))).mono ?_); (rintro e w13 ⟨rfl, hb⟩); have HB3 := Lib.hid hb; clear hb; (try go_simp))
          refine hK.out _ _ (⟨cell_on HB3.out hHeld.1, cell_on HB3.out hHeld.2.1, cell_on HB3.out hHeld.2.2.1, cell_on HB3.out hHeld.2.2.2.1, cell_on HB3.out hHeld.2.2.2.2.1, cell_on HB3.out hHeld.2.2.2.2.2.1, heap_on HB3.out hHeld.2.2.2.2.2.2.1, heap_on HB3.out hHeld.2.2.2.2.2.2.2.1, heap_on HB3.out hHeld.2.2.2.2.2.2.2.2.1, heap_on HB3.out hHeld.2.2.2.2.2.2.2.2.2.1, heap_on HB3.out hHeld.2.2.2.2.2.2.2.2.2.2⟩) (fun hNew => ?_)
          clear hK K hHeld; (have hHeld := hNew); clear hNew; (try simp only [Act.put, List.setIfInBounds_toArray, List.set_cons_zero, List.set_cons_succ])
          refine aloneH (i := 22) rfl (by kernel_rfl) (fun K hK => ?_)
          rw [if_pos (by rfl)]
          go_simp; ((refine (HS4.out _).mono ?_); (rintro e w14 ⟨rfl, hb⟩); have HB4 := Lib.hid hb; clear hb; (try go_simp))
          refine hK.out _ _ (⟨cell_on HB4.out hHeld.1, cell_on HB4.out hHeld.2.1, cell_on HB4.out hHeld.2.2.1, cell_on HB4.out hHeld.2.2.2.1, cell_on HB4.out hHeld.2.2.2.2.1, cell_on HB4.out hHeld.2.2.2.2.2.1, heap_on HB4.out hHeld.2.2.2.2.2.2.1, heap_on HB4.out hHeld.2.2.2.2.2.2.2.1, heap_on HB4.out hHeld.2.2.2.2.2.2.2.2.1, heap_on HB4.out hHeld.2.2.2.2.2.2.2.2.2.1, heap_on HB4.out hHeld.2.2.2.2.2.2.2.2.2.2⟩) (fun hNew => ?_)
          clear hK K hHeld; (have hHeld := hNew); clear hNew; (try simp only [Act.put, List.setIfInBounds_toArray, List.set_cons_zero, List.set_cons_succ])
          (refine takeH (i := 23) (v := ?_) rfl (by kernel_rfl) (by kernel_rfl) (by kernel_rfl) (fun _ _ _ h => h) (Or.inl ⟨by rfl, ?_⟩) (by assumption) ?_; rotate_left; (focus ((intro wS hSw); (try dsimp only at hSw); obtain ⟨s0, s1, s2, s3, s4, s5, s6, s7, s8, s9, s10⟩ := hSw; go_simp; (try with_reducible rfl); done)); (try simp only [Act.put, List.setIfInBounds_toArray, List.set_cons_zero, List.set_cons_succ]))
          (refine takeH (i := 24) (v := ?_) rfl (by kernel_rfl) (by kernel_rfl) (by kernel_rfl) (fun _ _ _ h => h) (Or.inl ⟨by rfl, ?_⟩) (by assumption) ?_; rotate_left; (focus ((intro wS hSw); (try dsimp only at hSw); obtain ⟨s0, s1, s2, s3, s4, s5, s6, s7, s8, s9, s10⟩ := hSw; go_simp; (try with_reducible rfl); done)); (try simp only [Act.put, List.setIfInBounds_toArray, List.set_cons_zero, List.set_cons_succ]))
          (refine takeH (i := 25) (v := ?_) rfl (by kernel_rfl) (by kernel_rfl) (by kernel_rfl) (fun _ _ _ h => h) (Or.inl ⟨by rfl, ?_⟩) (by assumption) ?_; rotate_left; (focus ((intro wS hSw); (try dsimp only at hSw); obtain ⟨s0, s1, s2, s3, s4, s5, s6, s7, s8, s9, s10⟩ := hSw; go_simp; (try with_reducible rfl); done)); (try simp only [Act.put, List.setIfInBounds_toArray, List.set_cons_zero, List.set_cons_succ]))
          (refine takeH (i := 26) (v := (.agg #[.int .i64 p1, .int .i64 p2, .int .i64 p3])) rfl (by kernel_rfl) (by kernel_rfl) (by kernel_rfl) (fun _ _ _ h => h) (yieldsIf_load_rowE (by rfl) 24 (.tmp 19) rfl w8.heap.size rfl 24 #[.int .i64 p1, .int .i64 p2, .int .i64 p3] (0, 0) _ (fun W h => h.2.2.2.2.2.2.2.1) Try.underlying24 rfl (by kernel_rfl)) (by assumption) ?_; (try simp only [Act.put, List.setIfInBounds_toArray, List.set_cons_zero, List.set_cons_succ]))
          (refine takeH (i := 27) (v := (.agg #[.int .i64 p1, .int .i64 p2, .int .i64 p3])) rfl (by kernel_rfl) (by kernel_rfl) (by kernel_rfl) (fun _ _ _ h => h) (yieldsIf_load_rowE (by rfl) 24 (.tmp 22) rfl w9.heap.size rfl 24 #[.int .i64 p1, .int .i64 p2, .int .i64 p3] (0, 0) _ (fun W h => h.2.2.2.2.2.2.2.2.2.1) Try.underlying24 rfl (by kernel_rfl)) (by assumption) ?_; (try simp only [Act.put, List.setIfInBounds_toArray, List.set_cons_zero, List.set_cons_succ]))
          (refine takeH (i := 28) (v := ?_) rfl (by kernel_rfl) (by kernel_rfl) (by kernel_rfl) (fun _ _ _ h => h) (Or.inl ⟨by rfl, ?_⟩) (by assumption) ?_; rotate_left; (focus ((intro wS hSw); (try dsimp only at hSw); obtain ⟨s0, s1, s2, s3, s4, s5, s6, s7, s8, s9, s10⟩ := hSw; go_simp; (try with_reducible rfl); done)); (try simp only [Act.put, List.setIfInBounds_toArray, List.set_cons_zero, List.set_cons_succ]))
          (refine takeH (i := 29) (v := ?_) rfl (by kernel_rfl) (by kernel_rfl) (by kernel_rfl) (fun _ _ _ h => h) (Or.inl ⟨by rfl, ?_⟩) (by assumption) ?_; rotate_left; (focus ((intro wS hSw); (try dsimp only at hSw); obtain ⟨s0, s1, s2, s3, s4, s5, s6, s7, s8, s9, s10⟩ := hSw; go_simp; (try with_reducible rfl); done)); (try simp only [Act.put, List.setIfInBounds_toArray, List.set_cons_zero, List.set_cons_succ]))
          (refine takeH (i := 30) (v := ?_) rfl (by kernel_rfl) (by kernel_rfl) (by kernel_rfl) (fun _ _ _ h => h) (Or.inl ⟨by rfl, ?_⟩) (by assumption) ?_; rotate_left; (focus ((intro wS hSw); (try dsimp only at hSw); obtain ⟨s0, s1, s2, s3, s4, s5, s6, s7, s8, s9, s10⟩ := hSw; go_simp; (try with_reducible rfl); done)); (try simp only [Act.put, List.setIfInBounds_toArray, List.set_cons_zero, List.set_cons_succ]))
          (refine takeH (i := 31) (v := (.agg #[.int .i64 o1, .int .i64 o2, .int .i64 o3])) rfl (by kernel_rfl) (by kernel_rfl) (by kernel_rfl) (fun _ _ _ h => h) (yieldsIf_load_rowE (by rfl) 24 (.tmp 20) rfl (w8.heap.size + 1) rfl 24 #[.int .i64 o1, .int .i64 o2, .int .i64 o3] (0, 0) _ (fun W h => h.2.2.2.2.2.2.2.2.1) Try.underlying24 rfl (by kernel_rfl)) (by assumption) ?_; (try simp only [Act.put, List.setIfInBounds_toArray, List.set_cons_zero, List.set_cons_succ]))
          (refine takeH (i := 32) (v := (.agg #[.int .i64 o1, .int .i64 o2, .int .i64 o3])) rfl (by kernel_rfl) (by kernel_rfl) (by kernel_rfl) (fun _ _ _ h => h) (yieldsIf_load_rowE (by rfl) 24 (.tmp 23) rfl (w9.heap.size + 1) rfl 24 #[.int .i64 o1, .int .i64 o2, .int .i64 o3] (0, 0) _ (fun W h => h.2.2.2.2.2.2.2.2.2.2) Try.underlying24 rfl (by kernel_rfl)) (by assumption) ?_; (try simp only [Act.put, List.setIfInBounds_toArray, List.set_cons_zero, List.set_cons_succ]))
          (refine takeH (i := 33) (v := ?_) rfl (by kernel_rfl) (by kernel_rfl) (by kernel_rfl) (fun _ _ _ h => h) (Or.inl ⟨by rfl, ?_⟩) (by assumption) ?_; rotate_left; (focus ((intro wS hSw); (try dsimp only at hSw); obtain ⟨s0, s1, s2, s3, s4, s5, s6, s7, s8, s9, s10⟩ := hSw; go_simp; (try with_reducible rfl); done)); (try simp only [Act.put, List.setIfInBounds_toArray, List.set_cons_zero, List.set_cons_succ]))
          (refine takeH (i := 34) (v := ?_) rfl (by kernel_rfl) (by kernel_rfl) (by kernel_rfl) (fun _ _ _ h => h) (Or.inl ⟨by rfl, ?_⟩) (by assumption) ?_; rotate_left; (focus ((intro wS hSw); (try dsimp only at hSw); obtain ⟨s0, s1, s2, s3, s4, s5, s6, s7, s8, s9, s10⟩ := hSw; go_simp; (try with_reducible rfl); done)); (try simp only [Act.put, List.setIfInBounds_toArray, List.set_cons_zero, List.set_cons_succ]))
          (refine takeH (i := 35) (v := ?_) rfl (by kernel_rfl) (by kernel_rfl) (by kernel_rfl) (fun _ _ _ h => h) (Or.inl ⟨by rfl, ?_⟩) (by assumption) ?_; rotate_left; (focus ((intro wS hSw); (try dsimp only at hSw); obtain ⟨s0, s1, s2, s3, s4, s5, s6, s7, s8, s9, s10⟩ := hSw; go_simp; (try with_reducible rfl); done)); (try simp only [Act.put, List.setIfInBounds_toArray, List.set_cons_zero, List.set_cons_succ]))
          (refine takeH (i := 36) (v := ?_) rfl (by kernel_rfl) (by kernel_rfl) (by kernel_rfl) (fun _ _ _ h => h) (Or.inl ⟨by rfl, ?_⟩) (by assumption) ?_; rotate_left; (focus ((intro wS hSw); (try dsimp only at hSw); obtain ⟨s0, s1, s2, s3, s4, s5, s6, s7, s8, s9, s10⟩ := hSw; go_simp; (try with_reducible rfl); done)); (try simp only [Act.put, List.setIfInBounds_toArray, List.set_cons_zero, List.set_cons_succ]))
          (refine takeH (i := 37) (v := ?_) rfl (by kernel_rfl) (by kernel_rfl) (by kernel_rfl) (fun _ _ _ h => h) (Or.inl ⟨by rfl, ?_⟩) (by assumption) ?_; rotate_left; (focus ((intro wS hSw); (try dsimp only at hSw); obtain ⟨s0, s1, s2, s3, s4, s5, s6, s7, s8, s9, s10⟩ := hSw; go_simp; (try with_reducible rfl); done)); (try simp only [Act.put, List.setIfInBounds_toArray, List.set_cons_zero, List.set_cons_succ]))
          (refine takeH (i := 38) (v := ?_) rfl (by kernel_rfl) (by kernel_rfl) (by kernel_rfl) (fun _ _ _ h => h) (Or.inl ⟨by rfl, ?_⟩) (by assumption) ?_; rotate_left; (focus ((intro wS hSw); (try dsimp only at hSw); obtain ⟨s0, s1, s2, s3, s4, s5, s6, s7, s8, s9, s10⟩ := hSw; go_simp; (try with_reducible rfl); done)); (try simp only [Act.put, List.setIfInBounds_toArray, List.set_cons_zero, List.set_cons_succ]))
          (refine takeH (i := 39) (v := ?_) rfl (by kernel_rfl) (by kernel_rfl) (by kernel_rfl) (fun _ _ _ h => h) (Or.inl ⟨by rfl, ?_⟩) (by assumption) ?_; rotate_left; (focus ((intro wS hSw); (try dsimp only at hSw); obtain ⟨s0, s1, s2, s3, s4, s5, s6, s7, s8, s9, s10⟩ := hSw; go_simp; (try with_reducible rfl); done)); (try simp only [Act.put, List.setIfInBounds_toArray, List.set_cons_zero, List.set_cons_succ]))
          (refine takeH (i := 40) (v := ?_) rfl (by kernel_rfl) (by kernel_rfl) (by kernel_rfl) (fun _ _ _ h => h) (Or.inl ⟨by rfl, ?_⟩) (by assumption) ?_; rotate_left; (focus ((intro wS hSw); (try dsimp only at hSw); obtain ⟨s0, s1, s2, s3, s4, s5, s6, s7, s8, s9, s10⟩ := hSw; go_simp; (try with_reducible rfl); done)); (try simp only [Act.put, List.setIfInBounds_toArray, List.set_cons_zero, List.set_cons_succ]))
          (refine takeH (i := 41) (v := ?_) rfl (by kernel_rfl) (by kernel_rfl) (by kernel_rfl) (fun _ _ _ h => h) (Or.inl ⟨by rfl, ?_⟩) (by assumption) ?_; rotate_left; (focus ((intro wS hSw); (try dsimp only at hSw); obtain ⟨s0, s1, s2, s3, s4, s5, s6, s7, s8, s9, s10⟩ := hSw; go_simp; (try with_reducible rfl); done)); (try simp only [Act.put, List.setIfInBounds_toArray, List.set_cons_zero, List.set_cons_succ]))
          (refine takeH (i := 43) (v := (.agg #[.int .i64 k, .int .i64 f1, .int .i64 f2, .int .i64 da, .int .i64 db])) rfl (by kernel_rfl) (by kernel_rfl) (by kernel_rfl) (fun _ _ _ h => h) (yieldsIf_load_rowE (by rfl) 31 (.tmp 12) rfl G rfl 31 #[.int .i64 k, .int .i64 f1, .int .i64 f2, .int .i64 da, .int .i64 db] (0, 0) _ (fun W h => h.2.2.2.2.2.2.1) Try.underlying31 rfl (by kernel_rfl)) (by assumption) ?_; (try simp only [Act.put, List.setIfInBounds_toArray, List.set_cons_zero, List.set_cons_succ]))
          refine aloneH (i := 42) rfl (by kernel_rfl) (fun K hK => ?_)
          rw [if_pos (by rfl)]
          go_simp; ((refine (HF1.out _ (HCd.out.on (below_then (below_then (below_then HB1.out HB2.out) HB3.out) HB4.out))).mono ?_); (rintro e w15 ⟨rfl, hb⟩); have HB5 := Lib.hid hb; clear hb; (try go_simp))
          refine hK.out _ _ (⟨cell_on HB5.out hHeld.1, cell_on HB5.out hHeld.2.1, cell_on HB5.out hHeld.2.2.1, cell_on HB5.out hHeld.2.2.2.1, cell_on HB5.out hHeld.2.2.2.2.1, cell_on HB5.out hHeld.2.2.2.2.2.1, heap_on HB5.out hHeld.2.2.2.2.2.2.1, heap_on HB5.out hHeld.2.2.2.2.2.2.2.1, heap_on HB5.out hHeld.2.2.2.2.2.2.2.2.1, heap_on HB5.out hHeld.2.2.2.2.2.2.2.2.2.1, heap_on HB5.out hHeld.2.2.2.2.2.2.2.2.2.2⟩) (fun hNew => ?_)
          clear hK K hHeld; (have hHeld := hNew); clear hNew; (try simp only [Act.put, List.setIfInBounds_toArray, List.set_cons_zero, List.set_cons_succ])
          refine aloneH (i := 44) rfl (by kernel_rfl) (fun K hK => ?_)
          rw [if_pos (by rfl)]
          go_simp; ((refine (HF2.out _).mono ?_); (rintro e w16 ⟨rfl, hb⟩); have HB6 := Lib.hid hb; clear hb; (try go_simp))
          refine hK.out _ _ (⟨cell_on HB6.out hHeld.1, cell_on HB6.out hHeld.2.1, cell_on HB6.out hHeld.2.2.1, cell_on HB6.out hHeld.2.2.2.1, cell_on HB6.out hHeld.2.2.2.2.1, cell_on HB6.out hHeld.2.2.2.2.2.1, heap_on HB6.out hHeld.2.2.2.2.2.2.1, heap_on HB6.out hHeld.2.2.2.2.2.2.2.1, heap_on HB6.out hHeld.2.2.2.2.2.2.2.2.1, heap_on HB6.out hHeld.2.2.2.2.2.2.2.2.2.1, heap_on HB6.out hHeld.2.2.2.2.2.2.2.2.2.2⟩) (fun hNew => ?_)
          clear hK K hHeld; (have hHeld := hNew); clear hNew; (try simp only [Act.put, List.setIfInBounds_toArray, List.set_cons_zero, List.set_cons_succ])
          (refine takeH (i := 45) (v := ?_) rfl (by kernel_rfl) (by kernel_rfl) (by kernel_rfl) (fun _ _ _ h => h) (Or.inl ⟨by rfl, ?_⟩) (by assumption) ?_; rotate_left; (focus ((intro wS hSw); (try dsimp only at hSw); obtain ⟨s0, s1, s2, s3, s4, s5, s6, s7, s8, s9, s10⟩ := hSw; go_simp; (try with_reducible rfl); done)); (try simp only [Act.put, List.setIfInBounds_toArray, List.set_cons_zero, List.set_cons_succ]))
          (refine takeH (i := 46) (v := ?_) rfl (by kernel_rfl) (by kernel_rfl) (by kernel_rfl) (fun _ _ _ h => h) (Or.inl ⟨by rfl, ?_⟩) (by assumption) ?_; rotate_left; (focus ((intro wS hSw); (try dsimp only at hSw); obtain ⟨s0, s1, s2, s3, s4, s5, s6, s7, s8, s9, s10⟩ := hSw; go_simp; (try with_reducible rfl); done)); (try simp only [Act.put, List.setIfInBounds_toArray, List.set_cons_zero, List.set_cons_succ]))
          (refine takeH (i := 47) (v := ?_) rfl (by kernel_rfl) (by kernel_rfl) (by kernel_rfl) (fun _ _ _ h => h) (Or.inl ⟨by rfl, ?_⟩) (by assumption) ?_; rotate_left; (focus ((intro wS hSw); (try dsimp only at hSw); obtain ⟨s0, s1, s2, s3, s4, s5, s6, s7, s8, s9, s10⟩ := hSw; go_simp; (try with_reducible rfl); done)); (try simp only [Act.put, List.setIfInBounds_toArray, List.set_cons_zero, List.set_cons_succ]))
          (refine takeH (i := 48) (v := ?_) rfl (by kernel_rfl) (by kernel_rfl) (by kernel_rfl) (fun _ _ _ h => h) (Or.inl ⟨by rfl, ?_⟩) (by assumption) ?_; rotate_left; (focus ((intro wS hSw); (try dsimp only at hSw); obtain ⟨s0, s1, s2, s3, s4, s5, s6, s7, s8, s9, s10⟩ := hSw; go_simp; (try with_reducible rfl); done)); (try simp only [Act.put, List.setIfInBounds_toArray, List.set_cons_zero, List.set_cons_succ]))
          (refine takeH (i := 50) (v := ?_) rfl (by kernel_rfl) (by kernel_rfl) (by kernel_rfl) (fun _ _ _ h => h) (Or.inl ⟨by rfl, ?_⟩) (by assumption) ?_; rotate_left; (focus ((intro wS hSw); (try dsimp only at hSw); obtain ⟨s0, s1, s2, s3, s4, s5, s6, s7, s8, s9, s10⟩ := hSw; go_simp; (try with_reducible rfl); done)); (try simp only [Act.put, List.setIfInBounds_toArray, List.set_cons_zero, List.set_cons_succ]))
          refine aloneH (i := 49) rfl (by kernel_rfl) (fun K hK => ?_)
          rw [if_pos (by rfl)]
          go_simp; ((refine (HKd.out _ (HCd.out.on (below_then (below_then (below_then (below_then (below_then HB1.out HB2.out) HB3.out) HB4.out) HB5.out) HB6.out))).mono ?_); (rintro e w17 ⟨rfl, rfl⟩); (try go_simp))
          have HB7 : Hid (Below w16.heap.size w16 w16) := Lib.hid (Below.refl _ _)
          refine hK.out _ _ (hHeld) (fun hNew => ?_)
          clear hK K hHeld; (have hHeld := hNew); clear hNew; (try simp only [Act.put, List.setIfInBounds_toArray, List.set_cons_zero, List.set_cons_succ])
          (refine takeH (i := 51) (v := ?_) rfl (by kernel_rfl) (by kernel_rfl) (by kernel_rfl) (fun _ _ _ h => h) (Or.inl ⟨by rfl, ?_⟩) (by assumption) ?_; rotate_left; (focus ((intro wS hSw); (try dsimp only at hSw); obtain ⟨s0, s1, s2, s3, s4, s5, s6, s7, s8, s9, s10⟩ := hSw; go_simp; (try with_reducible rfl); done)); (try simp only [Act.put, List.setIfInBounds_toArray, List.set_cons_zero, List.set_cons_succ]))
          (refine takeH (i := 52) (v := ?_) rfl (by kernel_rfl) (by kernel_rfl) (by kernel_rfl) (fun _ _ _ h => h) (Or.inl ⟨by rfl, ?_⟩) (by assumption) ?_; rotate_left; (focus ((intro wS hSw); (try dsimp only at hSw); obtain ⟨s0, s1, s2, s3, s4, s5, s6, s7, s8, s9, s10⟩ := hSw; go_simp; (try with_reducible rfl); done)); (try simp only [Act.put, List.setIfInBounds_toArray, List.set_cons_zero, List.set_cons_succ]))
          (refine takeH (i := 53) (v := ?_) rfl (by kernel_rfl) (by kernel_rfl) (by kernel_rfl) (fun _ _ _ h => h) (Or.inl ⟨by rfl, ?_⟩) (by assumption) ?_; rotate_left; (focus ((intro wS hSw); (try dsimp only at hSw); obtain ⟨s0, s1, s2, s3, s4, s5, s6, s7, s8, s9, s10⟩ := hSw; go_simp; (try with_reducible rfl); done)); (try simp only [Act.put, List.setIfInBounds_toArray, List.set_cons_zero, List.set_cons_succ]))
          (refine takeH (i := 54) (v := ?_) rfl (by kernel_rfl) (by kernel_rfl) (by kernel_rfl) (fun _ _ _ h => h) (Or.inl ⟨by rfl, ?_⟩) (by assumption) ?_; rotate_left; (focus ((intro wS hSw); (try dsimp only at hSw); obtain ⟨s0, s1, s2, s3, s4, s5, s6, s7, s8, s9, s10⟩ := hSw; go_simp; (try with_reducible rfl); done)); (try simp only [Act.put, List.setIfInBounds_toArray, List.set_cons_zero, List.set_cons_succ]))
          (refine takeH (i := 56) (v := (.agg #[.int .i64 k, .int .i64 f1, .int .i64 f2, .int .i64 da, .int .i64 db])) rfl (by kernel_rfl) (by kernel_rfl) (by kernel_rfl) (fun _ _ _ h => h) (yieldsIf_load_rowE (by rfl) 31 (.tmp 12) rfl G rfl 31 #[.int .i64 k, .int .i64 f1, .int .i64 f2, .int .i64 da, .int .i64 db] (0, 0) _ (fun W h => h.2.2.2.2.2.2.1) Try.underlying31 rfl (by kernel_rfl)) (by assumption) ?_; (try simp only [Act.put, List.setIfInBounds_toArray, List.set_cons_zero, List.set_cons_succ]))
          refine aloneH (i := 55) rfl (by kernel_rfl) (fun K hK => ?_)
          rw [if_pos (by rfl)]
          go_simp; ((refine (HFl.out _ (HCd.out.on (below_then (below_then (below_then (below_then (below_then (below_then HB1.out HB2.out) HB3.out) HB4.out) HB5.out) HB6.out) HB7.out))).mono ?_); (rintro e w18 ⟨A1, cp1, rfl, hrow, hb⟩); have HW1 := Lib.hid hrow; have HB8 := Lib.hid hb; clear hb hrow; (try go_simp))
          refine hK.out _ _ (⟨cell_on HB8.out hHeld.1, cell_on HB8.out hHeld.2.1, cell_on HB8.out hHeld.2.2.1, cell_on HB8.out hHeld.2.2.2.1, cell_on HB8.out hHeld.2.2.2.2.1, cell_on HB8.out hHeld.2.2.2.2.2.1, heap_on HB8.out hHeld.2.2.2.2.2.2.1, heap_on HB8.out hHeld.2.2.2.2.2.2.2.1, heap_on HB8.out hHeld.2.2.2.2.2.2.2.2.1, heap_on HB8.out hHeld.2.2.2.2.2.2.2.2.2.1, heap_on HB8.out hHeld.2.2.2.2.2.2.2.2.2.2⟩) (fun hNew => ?_)
          clear hK K hHeld; (have hHeld := hNew); clear hNew; (try simp only [Act.put, List.setIfInBounds_toArray, List.set_cons_zero, List.set_cons_succ])
          refine aloneH (i := 57) rfl (by kernel_rfl) (fun K hK => ?_)
          rw [if_pos (by rfl)]
          go_simp; ((refine (HAl.out _).mono ?_); (rintro e w19 ⟨A2, cp2, rfl, hrow, hb⟩); have HW2 := Lib.hid hrow; have HW1b := Lib.hid (HW1.out.on hb); have HB9 := Lib.hid hb; clear hb hrow; (try go_simp))
          refine hK.out _ _ (⟨cell_on HB9.out hHeld.1, cell_on HB9.out hHeld.2.1, cell_on HB9.out hHeld.2.2.1, cell_on HB9.out hHeld.2.2.2.1, cell_on HB9.out hHeld.2.2.2.2.1, cell_on HB9.out hHeld.2.2.2.2.2.1, heap_on HB9.out hHeld.2.2.2.2.2.2.1, heap_on HB9.out hHeld.2.2.2.2.2.2.2.1, heap_on HB9.out hHeld.2.2.2.2.2.2.2.2.1, heap_on HB9.out hHeld.2.2.2.2.2.2.2.2.2.1, heap_on HB9.out hHeld.2.2.2.2.2.2.2.2.2.2⟩) (fun hNew => ?_)
          clear hK K hHeld; (have hHeld := hNew); clear hNew; (try simp only [Act.put, List.setIfInBounds_toArray, List.set_cons_zero, List.set_cons_succ])
          refine aloneH (i := 58) rfl (by kernel_rfl) (fun K hK => ?_)
          rw [if_pos (by rfl)]
          go_simp; ((refine (same_yes _ A1 A2 cp1 cp2 LL HW1b.out HW2.out HLl.out).mono ?_); (rintro e w110 ⟨rfl, hb⟩); have HB10 := Lib.hid hb; clear hb; (try go_simp))
          refine hK.out _ _ (⟨cell_on HB10.out hHeld.1, cell_on HB10.out hHeld.2.1, cell_on HB10.out hHeld.2.2.1, cell_on HB10.out hHeld.2.2.2.1, cell_on HB10.out hHeld.2.2.2.2.1, cell_on HB10.out hHeld.2.2.2.2.2.1, heap_on HB10.out hHeld.2.2.2.2.2.2.1, heap_on HB10.out hHeld.2.2.2.2.2.2.2.1, heap_on HB10.out hHeld.2.2.2.2.2.2.2.2.1, heap_on HB10.out hHeld.2.2.2.2.2.2.2.2.2.1, heap_on HB10.out hHeld.2.2.2.2.2.2.2.2.2.2⟩) (fun hNew => ?_)
          clear hK K hHeld; (have hHeld := hNew); clear hNew; (try simp only [Act.put, List.setIfInBounds_toArray, List.set_cons_zero, List.set_cons_succ])
          (refine takeH (i := 59) (v := ?_) rfl (by kernel_rfl) (by kernel_rfl) (by kernel_rfl) (fun _ _ _ h => h) (Or.inl ⟨by rfl, ?_⟩) (by assumption) ?_; rotate_left; (focus ((intro wS hSw); (try dsimp only at hSw); obtain ⟨s0, s1, s2, s3, s4, s5, s6, s7, s8, s9, s10⟩ := hSw; go_simp; (try with_reducible rfl); done)); (try simp only [Act.put, List.setIfInBounds_toArray, List.set_cons_zero, List.set_cons_succ]))
          (refine takeH (i := 60) (v := ?_) rfl (by kernel_rfl) (by kernel_rfl) (by kernel_rfl) (fun _ _ _ h => h) (Or.inl ⟨by rfl, ?_⟩) (by assumption) ?_; rotate_left; (focus ((intro wS hSw); (try dsimp only at hSw); obtain ⟨s0, s1, s2, s3, s4, s5, s6, s7, s8, s9, s10⟩ := hSw; go_simp; (try with_reducible rfl); done)); (try simp only [Act.put, List.setIfInBounds_toArray, List.set_cons_zero, List.set_cons_succ]))
          refine wpAnyH_done (by kernel_rfl) ?_ _
          have b1 := (below_then (below_then (below_then (below_then (below_then (below_then (below_then (below_then (below_then HB1.out HB2.out) HB3.out) HB4.out) HB5.out) HB6.out) HB7.out) HB8.out) HB9.out) HB10.out)
          have HIz : Hid (PlI w G k F a0 ak ay ai P (j + 1) (c.cl pk py pi) w110) := Lib.hid ⟨HCd.out.on b1, HOk1.out, HKFz.out.1, HKFz.out.2.1, HKFz.out.2.2, by rw [HRow1.out]; exact heap_on b1 HGd.out, heap_on b1 HAd.out, below_any HBd.out (Nat.le_refl _) b1, HPgz.out, HPaz.out, HGa.out⟩
          clear b1 hHeld HBd HCd HGd HAd HXd
          go_wp2
          go_roundw
          case rel => exact ⟨j + 1, P, _, HJ.out.2, by go_num, rfl, HIz⟩
          case measure => rw [hw]; exact roundsLeft_next _ _ HJ.out.2
      · by_cases h1 : s0 = 1
        · subst h1
          as_aux_lemma =>
            obtain ⟨er, her⟩ : ∃ er, er = c.fiE pk py pi := ⟨_, rfl⟩
            have hk1 := Ck.fi_ok HOk.out pk py pi
            obtain ⟨da, hda⟩ : ∃ da, da = (c.fi pk py pi).A - (c.fi pk py pi).F := ⟨_, rfl⟩
            obtain ⟨db, hdb⟩ : ∃ db, db = (c.fi pk py pi).B - (c.fi pk py pi).F := ⟨_, rfl⟩
            have HRz : Hid (cRow (c.fi pk py pi) = #[.int .i64 k, .int .i64 f1, .int .i64 f2, .int .i64 da, .int .i64 db]) := Lib.hid (by unfold cRow; rw [hda, hdb, hk1.2.1, hk1.2.2.1, HKF.out.1, HKF.out.2.1, ← HF.out.1, ← HF.out.2])
            have HOp : Hid (∀ W, CkAt W P c → Calls Try.prog 14 #[.pointer (some ⟨P, 0, none⟩), .agg #[.int .i64 pk, .int .i64 py, .int .i64 pi]] W (StepP W P (c.fi pk py pi) er)) := Lib.hid (fun W h => by rw [her]; exact code_file W P c pk py pi h HOk.out)
            have HOd : Hid (∀ W, Calls Try.prog 15 #[.agg #[.int .i64 k, .int .i64 f1, .int .i64 f2, .int .i64 ca, .int .i64 cb], .agg #[.int .i64 pk, .int .i64 py, .int .i64 pi]] W fun e w' => e = .returned (.tuple #[.agg #[.int .i64 k, .int .i64 f1, .int .i64 f2, .int .i64 da, .int .i64 db], .int .i64 er]) ∧ Below W.heap.size W w') := Lib.hid (fun W => by have := ref_file W c HOk.out pk py pi; rw [HRow.out, HRz.out, ← her] at this; exact this)
            have HKFz : Hid ((c.fi pk py pi).k = k ∧ (c.fi pk py pi).F = F ∧ (c.fi pk py pi).B - (c.fi pk py pi).F ≤ ((j + 1 : Nat) : Int)) := Lib.hid ⟨hk1.2.1.trans HKF.out.1, hk1.2.2.1.trans HKF.out.2.1, by have h7 := hk1.2.2.2; have h8 := HKF.out.2.2; rw [hk1.2.2.1]; omega⟩
            have HOkz := Lib.hid hk1.1
            have HPgz := HPg
            have HPaz := HPa
            clear her hk1 hda hdb
            go_wp2_with (go_at_call 14; refine (HOp.out _ HC0.out).mono ?_; rintro e w5 hs; have HX5 := Lib.hid (hs.on HX0.out HNe.out.1); have HA5 := Lib.hid (hs.on HA0.out (Nat.ne_of_lt HPa.out)); have HG5 := Lib.hid (hs.on HG0.out HPg.out.symm); have HC5 := Lib.hid hs.2.1; have HB5 := Lib.hid (HB0.out.trans (hs.2.2.below (base := w.heap.size) HB0.out.size (Nat.le_of_lt HPa.out))); obtain rfl := hs.1; clear hs; refine Stop.out ?_)
            unfold Stop
            clear y0 y1 y2 y3
            obtain ⟨x0, x1, x2, x3⟩ := cells4_row HX5.out
            obtain ⟨g0, g1, g2, g3, g4⟩ := cells5_row HG5.out
            go_wp2_with (go_at_call 15; refine (HOd.out _).mono ?_; rintro e w6 ⟨rfl, hb⟩; have HX6 := Lib.hid (heap_on hb HX5.out); have HA6 := Lib.hid (heap_on hb HA5.out); have HG6 := Lib.hid (heap_on hb HG5.out); have HC6 := Lib.hid (HC5.out.on hb); have HB6 := Lib.hid (below_any HB5.out (Nat.le_refl _) hb); clear hb; refine Stop.out ?_)
            unfold Stop
            clear x0 x1 x2 x3 g0 g1 g2 g3 g4
            obtain ⟨g0, g1, g2, g3, g4⟩ := cells5_row HG6.out
            obtain ⟨e0, e1, e2, e3, e4⟩ := frozen5_row HG6.out
            have HXz := Lib.hid (far_put5 (a := .int .i64 k) (b := .int .i64 f1) (c := .int .i64 f2) (d := .int .i64 da) (e := .int .i64 db) HX6.out HNe.out.2.1)
            have HAz := Lib.hid (far_put5 (a := .int .i64 k) (b := .int .i64 f1) (c := .int .i64 f2) (d := .int .i64 da) (e := .int .i64 db) HA6.out (Nat.ne_of_lt HGa.out))
            have HCz : Hid (CkAt _ P (c.fi pk py pi)) := Lib.hid (far_put5 (a := .int .i64 k) (b := .int .i64 f1) (c := .int .i64 f2) (d := .int .i64 da) (e := .int .i64 db) HC6.out HPg.out)
            have HGz := Lib.hid (put5_row (.int .i64 k) (.int .i64 f1) (.int .i64 f2) (.int .i64 da) (.int .i64 db) HG6.out)
            have HBz := Lib.hid (below_put5 (a := .int .i64 k) (b := .int .i64 f1) (c := .int .i64 f2) (d := .int .i64 da) (e := .int .i64 db) HB6.out (Nat.le_of_lt HGa.out))
            have ok1 : (c.fi pk py pi).Ok := HOkz.out
            have HRow1 : Hid (cRow (c.fi pk py pi) = #[.int .i64 k, .int .i64 f1, .int .i64 f2, .int .i64 da, .int .i64 db]) := HRz
            obtain ⟨p1, p2, p3, o1, o2, o3, re, hrc, hrd⟩ := routes_both (c.fi pk py pi) ok1 when_
            rw [HRow1.out] at hrd
            have HRc := Lib.hid (hrc P)
            have HRd := Lib.hid hrd
            obtain ⟨v1, hv1⟩ : ∃ v1, v1 = (c.fi pk py pi).st ak ay ai := ⟨_, rfl⟩
            obtain ⟨v2, hv2⟩ : ∃ v2, v2 = (c.fi pk py pi).st pk py pi := ⟨_, rfl⟩
            have HS1 : Hid (∀ W, CkAt W P (c.fi pk py pi) → Calls Try.prog 19 #[.pointer (some ⟨P, 0, none⟩), .agg #[.int .i64 ak, .int .i64 ay, .int .i64 ai]] W fun e w' => e = .returned (.int .i64 v1) ∧ Below W.heap.size W w') := Lib.hid (fun W h => by rw [hv1]; exact code_state W _ _ _ _ _ h ok1)
            have HS2 : Hid (∀ W, Calls Try.prog 20 #[.agg #[.int .i64 k, .int .i64 f1, .int .i64 f2, .int .i64 da, .int .i64 db], .agg #[.int .i64 ak, .int .i64 ay, .int .i64 ai]] W fun e w' => e = .returned (.int .i64 v1) ∧ Below W.heap.size W w') := Lib.hid (fun W => by have := ref_state W _ ok1 ak ay ai; rw [HRow1.out, ← hv1] at this; exact this)
            have HS3 : Hid (∀ W, CkAt W P (c.fi pk py pi) → Calls Try.prog 19 #[.pointer (some ⟨P, 0, none⟩), .agg #[.int .i64 pk, .int .i64 py, .int .i64 pi]] W fun e w' => e = .returned (.int .i64 v2) ∧ Below W.heap.size W w') := Lib.hid (fun W h => by rw [hv2]; exact code_state W _ _ _ _ _ h ok1)
            have HS4 : Hid (∀ W, Calls Try.prog 20 #[.agg #[.int .i64 k, .int .i64 f1, .int .i64 f2, .int .i64 da, .int .i64 db], .agg #[.int .i64 pk, .int .i64 py, .int .i64 pi]] W fun e w' => e = .returned (.int .i64 v2) ∧ Below W.heap.size W w') := Lib.hid (fun W => by have := ref_state W _ ok1 pk py pi; rw [HRow1.out, ← hv2] at this; exact this)
            obtain ⟨q1, q2, q3, hq1, hq2⟩ : ∃ q1 q2 q3 : Int, (∀ W, CkAt W P (c.fi pk py pi) → Calls Try.prog 21 #[.pointer (some ⟨P, 0, none⟩)] W fun e w' => e = .returned (.agg #[.int .i64 q1, .int .i64 q2, .int .i64 q3]) ∧ Below W.heap.size W w') ∧ (∀ W, Calls Try.prog 10 #[.agg #[.int .i64 k, .int .i64 f1, .int .i64 f2, .int .i64 da, .int .i64 db]] W fun e w' => e = .returned (.agg #[.int .i64 q1, .int .i64 q2, .int .i64 q3]) ∧ Below W.heap.size W w') :=
              ⟨_, _, _, fun W h => code_first_ W _ _ h ok1, fun W => by have := ref_first27 W _ ok1; rw [HRow1.out] at this; exact this⟩
            have HF1 := Lib.hid hq1
            have HF2 := Lib.hid hq2
            have HKd : Hid (∀ W, CkAt W P (c.fi pk py pi) → Calls Try.prog 22 #[.pointer (some ⟨P, 0, none⟩)] W fun e w' => e = .returned (.int .i64 k) ∧ W = w') := Lib.hid (fun W h => by have := code_kind_ W _ _ h ok1; rw [show (c.fi pk py pi).k = k from HKFz.out.1] at this; exact this)
            have hfew : (c.fi pk py pi).B - (c.fi pk py pi).F ≤ ((j + 1 : Nat) : Int) := HKFz.out.2.2
            obtain ⟨mm, hmm⟩ : ∃ mm : Nat, (c.fi pk py pi).F + mm = (c.fi pk py pi).B := ⟨((c.fi pk py pi).B - (c.fi pk py pi).F).toNat, by have := ok1.fb; omega⟩
            obtain ⟨LL, hLL⟩ : ∃ LL, LL = persL (c.fi pk py pi).k (c.fi pk py pi).F mm := ⟨_, rfl⟩
            have hm9 : mm ≤ 900 := by have := HL.out; have := HJ.out.2; omega
            have HLl : Hid (LL.length ≤ 1000) := Lib.hid (by rw [hLL, persL_len]; omega)
            have HFl : Hid (∀ W, CkAt W P (c.fi pk py pi) → Calls Try.prog 24 #[.pointer (some ⟨P, 0, none⟩)] W fun e w' => ∃ A cp, e = .returned (.slice A LL.length cp) ∧ RowPerV w' A LL ∧ Below W.heap.size W w') := Lib.hid (fun W h => by rw [hLL]; exact (code_filed W _ _ h ok1 mm hmm hm9).mono fun e w' q => rows_of q)
            have HAl : Hid (∀ W, Calls Try.prog 25 #[.agg #[.int .i64 k, .int .i64 f1, .int .i64 f2, .int .i64 da, .int .i64 db]] W fun e w' => ∃ A cp, e = .returned (.slice A LL.length cp) ∧ RowPerV w' A LL ∧ Below W.heap.size W w') := Lib.hid (fun W => by rw [hLL]; have := ref_all W _ ok1 mm hmm hm9; rw [HRow1.out] at this; exact this.mono fun e w' q => rows_of q)
            have HOk1 := Lib.hid ok1
            clear ok1 hrc hrd hv1 hv2 hq1 hq2 hfew hmm hLL hm9
            go_wp2_with (go_at_call 17; refine (HRc.out _ HCz.out).mono ?_; rintro e w8 ⟨rfl, hb⟩; have HC8 := Lib.hid (HCz.out.on hb); have HG8 := Lib.hid (heap_on hb HGz.out); have HA8 := Lib.hid (heap_on hb HAz.out); have HX8 := Lib.hid (heap_on hb HXz.out); have HB8 := Lib.hid (below_any HBz.out (Nat.le_refl _) hb); clear hb; refine Stop.out ?_)
            unfold Stop
            clear g0 g1 g2 g3 g4 e0 e1 e2 e3 e4
            have b8 := below_then (below_alloc w8 (.cells #[.int .i64 p1, .int .i64 p2, .int .i64 p3] 24)) (below_alloc _ (.cells #[.int .i64 o1, .int .i64 o2, .int .i64 o3] 24))
            have HC8b := Lib.hid (HC8.out.on b8)
            have HG8b := Lib.hid (heap_on b8 HG8.out)
            have HA8b := Lib.hid (heap_on b8 HA8.out)
            have HX8b := Lib.hid (heap_on b8 HX8.out)
            have HB8b := Lib.hid (below_any HB8.out (Nat.le_refl _) b8)
            have HP8b := Lib.hid (heap_on (below_alloc _ (.cells #[.int .i64 o1, .int .i64 o2, .int .i64 o3] 24)) (heap_alloc_new w8 (.cells #[.int .i64 p1, .int .i64 p2, .int .i64 p3] 24)))
            have HO8b := Lib.hid (heap_alloc_new2 w8 (.cells #[.int .i64 p1, .int .i64 p2, .int .i64 p3] 24) (.cells #[.int .i64 o1, .int .i64 o2, .int .i64 o3] 24))
            have hz8 : G < w8.heap.size := heapLt HG8.out
            clear b8
            obtain ⟨g0, g1, g2, g3, g4⟩ := cells5_row HG8.out
            go_wp2_with (go_at_call 18; refine (HRd.out _).mono ?_; rintro e w9 ⟨rfl, hb⟩; have HC9 := Lib.hid (HC8b.out.on hb); have HG9 := Lib.hid (heap_on hb HG8b.out); have HA9 := Lib.hid (heap_on hb HA8b.out); have HX9 := Lib.hid (heap_on hb HX8b.out); have HB9 := Lib.hid (below_any HB8b.out (Nat.le_refl _) hb); have HP9 := Lib.hid (heap_on hb HP8b.out); have HO9 := Lib.hid (heap_on hb HO8b.out); clear hb; refine Stop.out ?_)
            unfold Stop
            clear g0 g1 g2 g3 g4 hz8
            have b9 := below_then (below_alloc w9 (.cells #[.int .i64 p1, .int .i64 p2, .int .i64 p3] 24)) (below_alloc _ (.cells #[.int .i64 o1, .int .i64 o2, .int .i64 o3] 24))
            have HCd := Lib.hid (HC9.out.on b9.drew)
            have HGd := Lib.hid (heap_on b9.drew HG9.out)
            have HAd := Lib.hid (heap_on b9.drew HA9.out)
            have HXd := Lib.hid (heap_on b9.drew HX9.out)
            have HBd := Lib.hid (below_any HB9.out (Nat.le_refl _) b9).drew
            have hS := And.intro (heap_on b9.drew HP9.out) (And.intro (heap_on b9.drew HO9.out) (And.intro (heap_on (below_alloc _ (.cells #[.int .i64 o1, .int .i64 o2, .int .i64 o3] 24)) (heap_alloc_new w9 (.cells #[.int .i64 p1, .int .i64 p2, .int .i64 p3] 24))) (heap_alloc_new2 w9 (.cells #[.int .i64 p1, .int .i64 p2, .int .i64 p3] 24) (.cells #[.int .i64 o1, .int .i64 o2, .int .i64 o3] 24))))
            have hA := cells4_row HAd.out
            have hX := cells4_row HXd.out
            have HS := Lib.hid (And.intro hA.2.1 (And.intro hA.2.2.1 (And.intro hA.2.2.2 (And.intro hX.2.1 (And.intro hX.2.2.1 (And.intro hX.2.2.2 (And.intro HGd.out hS)))))))
            clear b9 hS hA hX
            go_wp2_with fail
            refine wp_region_held_drew (S := fun W => W.cell? ⟨w.heap.size, 1, none⟩ = some (.int .i64 ak) ∧ W.cell? ⟨w.heap.size, 2, none⟩ = some (.int .i64 ay) ∧ W.cell? ⟨w.heap.size, 3, none⟩ = some (.int .i64 ai) ∧ W.cell? ⟨wr.heap.size, 1, none⟩ = some (.int .i64 pk) ∧ W.cell? ⟨wr.heap.size, 2, none⟩ = some (.int .i64 py) ∧ W.cell? ⟨wr.heap.size, 3, none⟩ = some (.int .i64 pi) ∧ W.heap[G]? = some (.cells #[.int .i64 k, .int .i64 f1, .int .i64 f2, .int .i64 da, .int .i64 db] 31 (0, 0)) ∧ W.heap[w8.heap.size]? = some (.cells #[.int .i64 p1, .int .i64 p2, .int .i64 p3] 24 (0, 0)) ∧ W.heap[(w8.heap.size + 1)]? = some (.cells #[.int .i64 o1, .int .i64 o2, .int .i64 o3] 24 (0, 0)) ∧ W.heap[w9.heap.size]? = some (.cells #[.int .i64 p1, .int .i64 p2, .int .i64 p3] 24 (0, 0)) ∧ W.heap[(w9.heap.size + 1)]? = some (.cells #[.int .i64 o1, .int .i64 o2, .int .i64 o3] 24 (0, 0))) (by kernel_rfl) HS.out ?_
            intro hHeld
            clear HS
            generalize ((w9.alloc (.cells #[.int .i64 p1, .int .i64 p2, .int .i64 p3] 24)).alloc (.cells #[.int .i64 o1, .int .i64 o2, .int .i64 o3] 24)).drew = wd at HBd HCd HGd HAd HXd hHeld ⊢
            (refine takeH (i := 0) (v := ?_) rfl (by kernel_rfl) (by kernel_rfl) (by kernel_rfl) (fun _ _ _ h => h) (Or.inl ⟨by rfl, ?_⟩) (by assumption) ?_; rotate_left; (focus ((intro wS hSw); (try dsimp only at hSw); obtain ⟨s0, s1, s2, s3, s4, s5, s6, s7, s8, s9, s10⟩ := hSw; go_simp; (try with_reducible rfl); done)); (try simp only [Act.put, List.setIfInBounds_toArray, List.set_cons_zero, List.set_cons_succ]))
            (refine takeH (i := 1) (v := ?_) rfl (by kernel_rfl) (by kernel_rfl) (by kernel_rfl) (fun _ _ _ h => h) (Or.inl ⟨by rfl, ?_⟩) (by assumption) ?_; rotate_left; (focus ((intro wS hSw); (try dsimp only at hSw); obtain ⟨s0, s1, s2, s3, s4, s5, s6, s7, s8, s9, s10⟩ := hSw; go_simp; (try with_reducible rfl); done)); (try simp only [Act.put, List.setIfInBounds_toArray, List.set_cons_zero, List.set_cons_succ]))
            (refine takeH (i := 2) (v := ?_) rfl (by kernel_rfl) (by kernel_rfl) (by kernel_rfl) (fun _ _ _ h => h) (Or.inl ⟨by rfl, ?_⟩) (by assumption) ?_; rotate_left; (focus ((intro wS hSw); (try dsimp only at hSw); obtain ⟨s0, s1, s2, s3, s4, s5, s6, s7, s8, s9, s10⟩ := hSw; go_simp; (try with_reducible rfl); done)); (try simp only [Act.put, List.setIfInBounds_toArray, List.set_cons_zero, List.set_cons_succ]))
            (refine takeH (i := 3) (v := ?_) rfl (by kernel_rfl) (by kernel_rfl) (by kernel_rfl) (fun _ _ _ h => h) (Or.inl ⟨by rfl, ?_⟩) (by assumption) ?_; rotate_left; (focus ((intro wS hSw); (try dsimp only at hSw); obtain ⟨s0, s1, s2, s3, s4, s5, s6, s7, s8, s9, s10⟩ := hSw; go_simp; (try with_reducible rfl); done)); (try simp only [Act.put, List.setIfInBounds_toArray, List.set_cons_zero, List.set_cons_succ]))
            (refine takeH (i := 4) (v := ?_) rfl (by kernel_rfl) (by kernel_rfl) (by kernel_rfl) (fun _ _ _ h => h) (Or.inl ⟨by rfl, ?_⟩) (by assumption) ?_; rotate_left; (focus ((intro wS hSw); (try dsimp only at hSw); obtain ⟨s0, s1, s2, s3, s4, s5, s6, s7, s8, s9, s10⟩ := hSw; go_simp; (try with_reducible rfl); done)); (try simp only [Act.put, List.setIfInBounds_toArray, List.set_cons_zero, List.set_cons_succ]))
            (refine takeH (i := 5) (v := ?_) rfl (by kernel_rfl) (by kernel_rfl) (by kernel_rfl) (fun _ _ _ h => h) (Or.inl ⟨by rfl, ?_⟩) (by assumption) ?_; rotate_left; (focus ((intro wS hSw); (try dsimp only at hSw); obtain ⟨s0, s1, s2, s3, s4, s5, s6, s7, s8, s9, s10⟩ := hSw; go_simp; (try with_reducible rfl); done)); (try simp only [Act.put, List.setIfInBounds_toArray, List.set_cons_zero, List.set_cons_succ]))
            (refine takeH (i := 6) (v := ?_) rfl (by kernel_rfl) (by kernel_rfl) (by kernel_rfl) (fun _ _ _ h => h) (Or.inl ⟨by rfl, ?_⟩) (by assumption) ?_; rotate_left; (focus ((intro wS hSw); (try dsimp only at hSw); obtain ⟨s0, s1, s2, s3, s4, s5, s6, s7, s8, s9, s10⟩ := hSw; go_simp; (try with_reducible rfl); done)); (try simp only [Act.put, List.setIfInBounds_toArray, List.set_cons_zero, List.set_cons_succ]))
            (refine takeH (i := 8) (v := (.agg #[.int .i64 k, .int .i64 f1, .int .i64 f2, .int .i64 da, .int .i64 db])) rfl (by kernel_rfl) (by kernel_rfl) (by kernel_rfl) (fun _ _ _ h => h) (yieldsIf_load_rowE (by rfl) 31 (.tmp 12) rfl G rfl 31 #[.int .i64 k, .int .i64 f1, .int .i64 f2, .int .i64 da, .int .i64 db] (0, 0) _ (fun W h => h.2.2.2.2.2.2.1) Try.underlying31 rfl (by kernel_rfl)) (by assumption) ?_; (try simp only [Act.put, List.setIfInBounds_toArray, List.set_cons_zero, List.set_cons_succ]))
            (refine takeH (i := 9) (v := ?_) rfl (by kernel_rfl) (by kernel_rfl) (by kernel_rfl) (fun _ _ _ h => h) (Or.inl ⟨by rfl, ?_⟩) (by assumption) ?_; rotate_left; (focus ((intro wS hSw); (try dsimp only at hSw); obtain ⟨s0, s1, s2, s3, s4, s5, s6, s7, s8, s9, s10⟩ := hSw; go_simp; (try with_reducible rfl); done)); (try simp only [Act.put, List.setIfInBounds_toArray, List.set_cons_zero, List.set_cons_succ]))
            (refine takeH (i := 10) (v := ?_) rfl (by kernel_rfl) (by kernel_rfl) (by kernel_rfl) (fun _ _ _ h => h) (Or.inl ⟨by rfl, ?_⟩) (by assumption) ?_; rotate_left; (focus ((intro wS hSw); (try dsimp only at hSw); obtain ⟨s0, s1, s2, s3, s4, s5, s6, s7, s8, s9, s10⟩ := hSw; go_simp; (try with_reducible rfl); done)); (try simp only [Act.put, List.setIfInBounds_toArray, List.set_cons_zero, List.set_cons_succ]))
            refine aloneH (i := 7) rfl (by kernel_rfl) (fun K hK => ?_)
            rw [if_pos (by rfl)]
            go_simp; ((refine (HS1.out _ (HCd.out.on (Below.refl _ wd))).mono ?_); (rintro e w11 ⟨rfl, hb⟩); have HB1 := Lib.hid hb; clear hb; (try go_simp))
            refine hK.out _ _ (⟨cell_on HB1.out hHeld.1, cell_on HB1.out hHeld.2.1, cell_on HB1.out hHeld.2.2.1, cell_on HB1.out hHeld.2.2.2.1, cell_on HB1.out hHeld.2.2.2.2.1, cell_on HB1.out hHeld.2.2.2.2.2.1, heap_on HB1.out hHeld.2.2.2.2.2.2.1, heap_on HB1.out hHeld.2.2.2.2.2.2.2.1, heap_on HB1.out hHeld.2.2.2.2.2.2.2.2.1, heap_on HB1.out hHeld.2.2.2.2.2.2.2.2.2.1, heap_on HB1.out hHeld.2.2.2.2.2.2.2.2.2.2⟩) (fun hNew => ?_)
            clear hK K hHeld; (have hHeld := hNew); clear hNew; (try simp only [Act.put, List.setIfInBounds_toArray, List.set_cons_zero, List.set_cons_succ])
            refine aloneH (i := 11) rfl (by kernel_rfl) (fun K hK => ?_)
            rw [if_pos (by rfl)]
            go_simp; ((refine (HS2.out _).mono ?_); (rintro e w12 ⟨rfl, hb⟩); have HB2 := Lib.hid hb; clear hb; (try go_simp))
            refine hK.out _ _ (⟨cell_on HB2.out hHeld.1, cell_on HB2.out hHeld.2.1, cell_on HB2.out hHeld.2.2.1, cell_on HB2.out hHeld.2.2.2.1, cell_on HB2.out hHeld.2.2.2.2.1, cell_on HB2.out hHeld.2.2.2.2.2.1, heap_on HB2.out hHeld.2.2.2.2.2.2.1, heap_on HB2.out hHeld.2.2.2.2.2.2.2.1, heap_on HB2.out hHeld.2.2.2.2.2.2.2.2.1, heap_on HB2.out hHeld.2.2.2.2.2.2.2.2.2.1, heap_on HB2.out hHeld.2.2.2.2.2.2.2.2.2.2⟩) (fun hNew => ?_)
            clear hK K hHeld; (have hHeld := hNew); clear hNew; (try simp only [Act.put, List.setIfInBounds_toArray, List.set_cons_zero, List.set_cons_succ])
            (refine takeH (i := 12) (v := ?_) rfl (by kernel_rfl) (by kernel_rfl) (by kernel_rfl) (fun _ _ _ h => h) (Or.inl ⟨by rfl, ?_⟩) (by assumption) ?_; rotate_left; (focus ((intro wS hSw); (try dsimp only at hSw); obtain ⟨s0, s1, s2, s3, s4, s5, s6, s7, s8, s9, s10⟩ := hSw; go_simp; (try with_reducible rfl); done)); (try simp only [Act.put, List.setIfInBounds_toArray, List.set_cons_zero, List.set_cons_succ]))
            (refine takeH (i := 13) (v := ?_) rfl (by kernel_rfl) (by kernel_rfl) (by kernel_rfl) (fun _ _ _ h => h) (Or.inl ⟨by rfl, ?_⟩) (by assumption) ?_; rotate_left; (focus ((intro wS hSw); (try dsimp only at hSw); obtain ⟨s0, s1, s2, s3, s4, s5, s6, s7, s8, s9, s10⟩ := hSw; go_simp; (try with_reducible rfl); done)); (try simp only [Act.put, List.setIfInBounds_toArray, List.set_cons_zero, List.set_cons_succ]))
            (refine takeH (i := 14) (v := ?_) rfl (by kernel_rfl) (by kernel_rfl) (by kernel_rfl) (fun _ _ _ h => h) (Or.inl ⟨by rfl, ?_⟩) (by assumption) ?_; rotate_left; (focus ((intro wS hSw); (try dsimp only at hSw); obtain ⟨s0, s1, s2, s3, s4, s5, s6, s7, s8, s9, s10⟩ := hSw; go_simp; (try with_reducible rfl); done)); (try simp only [Act.put, List.setIfInBounds_toArray, List.set_cons_zero, List.set_cons_succ]))
            (refine takeH (i := 15) (v := ?_) rfl (by kernel_rfl) (by kernel_rfl) (by kernel_rfl) (fun _ _ _ h => h) (Or.inl ⟨by rfl, ?_⟩) (by assumption) ?_; rotate_left; (focus ((intro wS hSw); (try dsimp only at hSw); obtain ⟨s0, s1, s2, s3, s4, s5, s6, s7, s8, s9, s10⟩ := hSw; go_simp; (try with_reducible rfl); done)); (try simp only [Act.put, List.setIfInBounds_toArray, List.set_cons_zero, List.set_cons_succ]))
            (refine takeH (i := 16) (v := ?_) rfl (by kernel_rfl) (by kernel_rfl) (by kernel_rfl) (fun _ _ _ h => h) (Or.inl ⟨by rfl, ?_⟩) (by assumption) ?_; rotate_left; (focus ((intro wS hSw); (try dsimp only at hSw); obtain ⟨s0, s1, s2, s3, s4, s5, s6, s7, s8, s9, s10⟩ := hSw; go_simp; (try with_reducible rfl); done)); (try simp only [Act.put, List.setIfInBounds_toArray, List.set_cons_zero, List.set_cons_succ]))
            (refine takeH (i := 17) (v := ?_) rfl (by kernel_rfl) (by kernel_rfl) (by kernel_rfl) (fun _ _ _ h => h) (Or.inl ⟨by rfl, ?_⟩) (by assumption) ?_; rotate_left; (focus ((intro wS hSw); (try dsimp only at hSw); obtain ⟨s0, s1, s2, s3, s4, s5, s6, s7, s8, s9, s10⟩ := hSw; go_simp; (try with_reducible rfl); done)); (try simp only [Act.put, List.setIfInBounds_toArray, List.set_cons_zero, List.set_cons_succ]))
            (refine takeH (i := 19) (v := (.agg #[.int .i64 k, .int .i64 f1, .int .i64 f2, .int .i64 da, .int .i64 db])) rfl (by kernel_rfl) (by kernel_rfl) (by kernel_rfl) (fun _ _ _ h => h) (yieldsIf_load_rowE (by rfl) 31 (.tmp 12) rfl G rfl 31 #[.int .i64 k, .int .i64 f1, .int .i64 f2, .int .i64 da, .int .i64 db] (0, 0) _ (fun W h => h.2.2.2.2.2.2.1) Try.underlying31 rfl (by kernel_rfl)) (by assumption) ?_; (try simp only [Act.put, List.setIfInBounds_toArray, List.set_cons_zero, List.set_cons_succ]))
            (refine takeH (i := 20) (v := ?_) rfl (by kernel_rfl) (by kernel_rfl) (by kernel_rfl) (fun _ _ _ h => h) (Or.inl ⟨by rfl, ?_⟩) (by assumption) ?_; rotate_left; (focus ((intro wS hSw); (try dsimp only at hSw); obtain ⟨s0, s1, s2, s3, s4, s5, s6, s7, s8, s9, s10⟩ := hSw; go_simp; (try with_reducible rfl); done)); (try simp only [Act.put, List.setIfInBounds_toArray, List.set_cons_zero, List.set_cons_succ]))
            (refine takeH (i := 21) (v := ?_) rfl (by kernel_rfl) (by kernel_rfl) (by kernel_rfl) (fun _ _ _ h => h) (Or.inl ⟨by rfl, ?_⟩) (by assumption) ?_; rotate_left; (focus ((intro wS hSw); (try dsimp only at hSw); obtain ⟨s0, s1, s2, s3, s4, s5, s6, s7, s8, s9, s10⟩ := hSw; go_simp; (try with_reducible rfl); done)); (try simp only [Act.put, List.setIfInBounds_toArray, List.set_cons_zero, List.set_cons_succ]))
            refine aloneH (i := 18) rfl (by kernel_rfl) (fun K hK => ?_)
            rw [if_pos (by rfl)]
            go_simp; ((refine (HS3.out _ (HCd.out.on (below_then HB1.out HB2.out))).mono ?_); (rintro e w13 ⟨rfl, hb⟩); have HB3 := Lib.hid hb; clear hb; (try go_simp))
            refine hK.out _ _ (⟨cell_on HB3.out hHeld.1, cell_on HB3.out hHeld.2.1, cell_on HB3.out hHeld.2.2.1, cell_on HB3.out hHeld.2.2.2.1, cell_on HB3.out hHeld.2.2.2.2.1, cell_on HB3.out hHeld.2.2.2.2.2.1, heap_on HB3.out hHeld.2.2.2.2.2.2.1, heap_on HB3.out hHeld.2.2.2.2.2.2.2.1, heap_on HB3.out hHeld.2.2.2.2.2.2.2.2.1, heap_on HB3.out hHeld.2.2.2.2.2.2.2.2.2.1, heap_on HB3.out hHeld.2.2.2.2.2.2.2.2.2.2⟩) (fun hNew => ?_)
            clear hK K hHeld; (have hHeld := hNew); clear hNew; (try simp only [Act.put, List.setIfInBounds_toArray, List.set_cons_zero, List.set_cons_succ])
            refine aloneH (i := 22) rfl (by kernel_rfl) (fun K hK => ?_)
            rw [if_pos (by rfl)]
            go_simp; ((refine (HS4.out _).mono ?_); (rintro e w14 ⟨rfl, hb⟩); have HB4 := Lib.hid hb; clear hb; (try go_simp))
            refine hK.out _ _ (⟨cell_on HB4.out hHeld.1, cell_on HB4.out hHeld.2.1, cell_on HB4.out hHeld.2.2.1, cell_on HB4.out hHeld.2.2.2.1, cell_on HB4.out hHeld.2.2.2.2.1, cell_on HB4.out hHeld.2.2.2.2.2.1, heap_on HB4.out hHeld.2.2.2.2.2.2.1, heap_on HB4.out hHeld.2.2.2.2.2.2.2.1, heap_on HB4.out hHeld.2.2.2.2.2.2.2.2.1, heap_on HB4.out hHeld.2.2.2.2.2.2.2.2.2.1, heap_on HB4.out hHeld.2.2.2.2.2.2.2.2.2.2⟩) (fun hNew => ?_)
            clear hK K hHeld; (have hHeld := hNew); clear hNew; (try simp only [Act.put, List.setIfInBounds_toArray, List.set_cons_zero, List.set_cons_succ])
            (refine takeH (i := 23) (v := ?_) rfl (by kernel_rfl) (by kernel_rfl) (by kernel_rfl) (fun _ _ _ h => h) (Or.inl ⟨by rfl, ?_⟩) (by assumption) ?_; rotate_left; (focus ((intro wS hSw); (try dsimp only at hSw); obtain ⟨s0, s1, s2, s3, s4, s5, s6, s7, s8, s9, s10⟩ := hSw; go_simp; (try with_reducible rfl); done)); (try simp only [Act.put, List.setIfInBounds_toArray, List.set_cons_zero, List.set_cons_succ]))
            (refine takeH (i := 24) (v := ?_) rfl (by kernel_rfl) (by kernel_rfl) (by kernel_rfl) (fun _ _ _ h => h) (Or.inl ⟨by rfl, ?_⟩) (by assumption) ?_; rotate_left; (focus ((intro wS hSw); (try dsimp only at hSw); obtain ⟨s0, s1, s2, s3, s4, s5, s6, s7, s8, s9, s10⟩ := hSw; go_simp; (try with_reducible rfl); done)); (try simp only [Act.put, List.setIfInBounds_toArray, List.set_cons_zero, List.set_cons_succ]))
            (refine takeH (i := 25) (v := ?_) rfl (by kernel_rfl) (by kernel_rfl) (by kernel_rfl) (fun _ _ _ h => h) (Or.inl ⟨by rfl, ?_⟩) (by assumption) ?_; rotate_left; (focus ((intro wS hSw); (try dsimp only at hSw); obtain ⟨s0, s1, s2, s3, s4, s5, s6, s7, s8, s9, s10⟩ := hSw; go_simp; (try with_reducible rfl); done)); (try simp only [Act.put, List.setIfInBounds_toArray, List.set_cons_zero, List.set_cons_succ]))
            (refine takeH (i := 26) (v := (.agg #[.int .i64 p1, .int .i64 p2, .int .i64 p3])) rfl (by kernel_rfl) (by kernel_rfl) (by kernel_rfl) (fun _ _ _ h => h) (yieldsIf_load_rowE (by rfl) 24 (.tmp 19) rfl w8.heap.size rfl 24 #[.int .i64 p1, .int .i64 p2, .int .i64 p3] (0, 0) _ (fun W h => h.2.2.2.2.2.2.2.1) Try.underlying24 rfl (by kernel_rfl)) (by assumption) ?_; (try simp only [Act.put, List.setIfInBounds_toArray, List.set_cons_zero, List.set_cons_succ]))
            (refine takeH (i := 27) (v := (.agg #[.int .i64 p1, .int .i64 p2, .int .i64 p3])) rfl (by kernel_rfl) (by kernel_rfl) (by kernel_rfl) (fun _ _ _ h => h) (yieldsIf_load_rowE (by rfl) 24 (.tmp 22) rfl w9.heap.size rfl 24 #[.int .i64 p1, .int .i64 p2, .int .i64 p3] (0, 0) _ (fun W h => h.2.2.2.2.2.2.2.2.2.1) Try.underlying24 rfl (by kernel_rfl)) (by assumption) ?_; (try simp only [Act.put, List.setIfInBounds_toArray, List.set_cons_zero, List.set_cons_succ]))
            (refine takeH (i := 28) (v := ?_) rfl (by kernel_rfl) (by kernel_rfl) (by kernel_rfl) (fun _ _ _ h => h) (Or.inl ⟨by rfl, ?_⟩) (by assumption) ?_; rotate_left; (focus ((intro wS hSw); (try dsimp only at hSw); obtain ⟨s0, s1, s2, s3, s4, s5, s6, s7, s8, s9, s10⟩ := hSw; go_simp; (try with_reducible rfl); done)); (try simp only [Act.put, List.setIfInBounds_toArray, List.set_cons_zero, List.set_cons_succ]))
            (refine takeH (i := 29) (v := ?_) rfl (by kernel_rfl) (by kernel_rfl) (by kernel_rfl) (fun _ _ _ h => h) (Or.inl ⟨by rfl, ?_⟩) (by assumption) ?_; rotate_left; (focus ((intro wS hSw); (try dsimp only at hSw); obtain ⟨s0, s1, s2, s3, s4, s5, s6, s7, s8, s9, s10⟩ := hSw; go_simp; (try with_reducible rfl); done)); (try simp only [Act.put, List.setIfInBounds_toArray, List.set_cons_zero, List.set_cons_succ]))
            (refine takeH (i := 30) (v := ?_) rfl (by kernel_rfl) (by kernel_rfl) (by kernel_rfl) (fun _ _ _ h => h) (Or.inl ⟨by rfl, ?_⟩) (by assumption) ?_; rotate_left; (focus ((intro wS hSw); (try dsimp only at hSw); obtain ⟨s0, s1, s2, s3, s4, s5, s6, s7, s8, s9, s10⟩ := hSw; go_simp; (try with_reducible rfl); done)); (try simp only [Act.put, List.setIfInBounds_toArray, List.set_cons_zero, List.set_cons_succ]))
            (refine takeH (i := 31) (v := (.agg #[.int .i64 o1, .int .i64 o2, .int .i64 o3])) rfl (by kernel_rfl) (by kernel_rfl) (by kernel_rfl) (fun _ _ _ h => h) (yieldsIf_load_rowE (by rfl) 24 (.tmp 20) rfl (w8.heap.size + 1) rfl 24 #[.int .i64 o1, .int .i64 o2, .int .i64 o3] (0, 0) _ (fun W h => h.2.2.2.2.2.2.2.2.1) Try.underlying24 rfl (by kernel_rfl)) (by assumption) ?_; (try simp only [Act.put, List.setIfInBounds_toArray, List.set_cons_zero, List.set_cons_succ]))
            (refine takeH (i := 32) (v := (.agg #[.int .i64 o1, .int .i64 o2, .int .i64 o3])) rfl (by kernel_rfl) (by kernel_rfl) (by kernel_rfl) (fun _ _ _ h => h) (yieldsIf_load_rowE (by rfl) 24 (.tmp 23) rfl (w9.heap.size + 1) rfl 24 #[.int .i64 o1, .int .i64 o2, .int .i64 o3] (0, 0) _ (fun W h => h.2.2.2.2.2.2.2.2.2.2) Try.underlying24 rfl (by kernel_rfl)) (by assumption) ?_; (try simp only [Act.put, List.setIfInBounds_toArray, List.set_cons_zero, List.set_cons_succ]))
            (refine takeH (i := 33) (v := ?_) rfl (by kernel_rfl) (by kernel_rfl) (by kernel_rfl) (fun _ _ _ h => h) (Or.inl ⟨by rfl, ?_⟩) (by assumption) ?_; rotate_left; (focus ((intro wS hSw); (try dsimp only at hSw); obtain ⟨s0, s1, s2, s3, s4, s5, s6, s7, s8, s9, s10⟩ := hSw; go_simp; (try with_reducible rfl); done)); (try simp only [Act.put, List.setIfInBounds_toArray, List.set_cons_zero, List.set_cons_succ]))
            (refine takeH (i := 34) (v := ?_) rfl (by kernel_rfl) (by kernel_rfl) (by kernel_rfl) (fun _ _ _ h => h) (Or.inl ⟨by rfl, ?_⟩) (by assumption) ?_; rotate_left; (focus ((intro wS hSw); (try dsimp only at hSw); obtain ⟨s0, s1, s2, s3, s4, s5, s6, s7, s8, s9, s10⟩ := hSw; go_simp; (try with_reducible rfl); done)); (try simp only [Act.put, List.setIfInBounds_toArray, List.set_cons_zero, List.set_cons_succ]))
            (refine takeH (i := 35) (v := ?_) rfl (by kernel_rfl) (by kernel_rfl) (by kernel_rfl) (fun _ _ _ h => h) (Or.inl ⟨by rfl, ?_⟩) (by assumption) ?_; rotate_left; (focus ((intro wS hSw); (try dsimp only at hSw); obtain ⟨s0, s1, s2, s3, s4, s5, s6, s7, s8, s9, s10⟩ := hSw; go_simp; (try with_reducible rfl); done)); (try simp only [Act.put, List.setIfInBounds_toArray, List.set_cons_zero, List.set_cons_succ]))
            (refine takeH (i := 36) (v := ?_) rfl (by kernel_rfl) (by kernel_rfl) (by kernel_rfl) (fun _ _ _ h => h) (Or.inl ⟨by rfl, ?_⟩) (by assumption) ?_; rotate_left; (focus ((intro wS hSw); (try dsimp only at hSw); obtain ⟨s0, s1, s2, s3, s4, s5, s6, s7, s8, s9, s10⟩ := hSw; go_simp; (try with_reducible rfl); done)); (try simp only [Act.put, List.setIfInBounds_toArray, List.set_cons_zero, List.set_cons_succ]))
            (refine takeH (i := 37) (v := ?_) rfl (by kernel_rfl) (by kernel_rfl) (by kernel_rfl) (fun _ _ _ h => h) (Or.inl ⟨by rfl, ?_⟩) (by assumption) ?_; rotate_left; (focus ((intro wS hSw); (try dsimp only at hSw); obtain ⟨s0, s1, s2, s3, s4, s5, s6, s7, s8, s9, s10⟩ := hSw; go_simp; (try with_reducible rfl); done)); (try simp only [Act.put, List.setIfInBounds_toArray, List.set_cons_zero, List.set_cons_succ]))
            (refine takeH (i := 38) (v := ?_) rfl (by kernel_rfl) (by kernel_rfl) (by kernel_rfl) (fun _ _ _ h => h) (Or.inl ⟨by rfl, ?_⟩) (by assumption) ?_; rotate_left; (focus ((intro wS hSw); (try dsimp only at hSw); obtain ⟨s0, s1, s2, s3, s4, s5, s6, s7, s8, s9, s10⟩ := hSw; go_simp; (try with_reducible rfl); done)); (try simp only [Act.put, List.setIfInBounds_toArray, List.set_cons_zero, List.set_cons_succ]))
            (refine takeH (i := 39) (v := ?_) rfl (by kernel_rfl) (by kernel_rfl) (by kernel_rfl) (fun _ _ _ h => h) (Or.inl ⟨by rfl, ?_⟩) (by assumption) ?_; rotate_left; (focus ((intro wS hSw); (try dsimp only at hSw); obtain ⟨s0, s1, s2, s3, s4, s5, s6, s7, s8, s9, s10⟩ := hSw; go_simp; (try with_reducible rfl); done)); (try simp only [Act.put, List.setIfInBounds_toArray, List.set_cons_zero, List.set_cons_succ]))
            (refine takeH (i := 40) (v := ?_) rfl (by kernel_rfl) (by kernel_rfl) (by kernel_rfl) (fun _ _ _ h => h) (Or.inl ⟨by rfl, ?_⟩) (by assumption) ?_; rotate_left; (focus ((intro wS hSw); (try dsimp only at hSw); obtain ⟨s0, s1, s2, s3, s4, s5, s6, s7, s8, s9, s10⟩ := hSw; go_simp; (try with_reducible rfl); done)); (try simp only [Act.put, List.setIfInBounds_toArray, List.set_cons_zero, List.set_cons_succ]))
            (refine takeH (i := 41) (v := ?_) rfl (by kernel_rfl) (by kernel_rfl) (by kernel_rfl) (fun _ _ _ h => h) (Or.inl ⟨by rfl, ?_⟩) (by assumption) ?_; rotate_left; (focus ((intro wS hSw); (try dsimp only at hSw); obtain ⟨s0, s1, s2, s3, s4, s5, s6, s7, s8, s9, s10⟩ := hSw; go_simp; (try with_reducible rfl); done)); (try simp only [Act.put, List.setIfInBounds_toArray, List.set_cons_zero, List.set_cons_succ]))
            (refine takeH (i := 43) (v := (.agg #[.int .i64 k, .int .i64 f1, .int .i64 f2, .int .i64 da, .int .i64 db])) rfl (by kernel_rfl) (by kernel_rfl) (by kernel_rfl) (fun _ _ _ h => h) (yieldsIf_load_rowE (by rfl) 31 (.tmp 12) rfl G rfl 31 #[.int .i64 k, .int .i64 f1, .int .i64 f2, .int .i64 da, .int .i64 db] (0, 0) _ (fun W h => h.2.2.2.2.2.2.1) Try.underlying31 rfl (by kernel_rfl)) (by assumption) ?_; (try simp only [Act.put, List.setIfInBounds_toArray, List.set_cons_zero, List.set_cons_succ]))
            refine aloneH (i := 42) rfl (by kernel_rfl) (fun K hK => ?_)
            rw [if_pos (by rfl)]
            go_simp; ((refine (HF1.out _ (HCd.out.on (below_then (below_then (below_then HB1.out HB2.out) HB3.out) HB4.out))).mono ?_); (rintro e w15 ⟨rfl, hb⟩); have HB5 := Lib.hid hb; clear hb; (try go_simp))
            refine hK.out _ _ (⟨cell_on HB5.out hHeld.1, cell_on HB5.out hHeld.2.1, cell_on HB5.out hHeld.2.2.1, cell_on HB5.out hHeld.2.2.2.1, cell_on HB5.out hHeld.2.2.2.2.1, cell_on HB5.out hHeld.2.2.2.2.2.1, heap_on HB5.out hHeld.2.2.2.2.2.2.1, heap_on HB5.out hHeld.2.2.2.2.2.2.2.1, heap_on HB5.out hHeld.2.2.2.2.2.2.2.2.1, heap_on HB5.out hHeld.2.2.2.2.2.2.2.2.2.1, heap_on HB5.out hHeld.2.2.2.2.2.2.2.2.2.2⟩) (fun hNew => ?_)
            clear hK K hHeld; (have hHeld := hNew); clear hNew; (try simp only [Act.put, List.setIfInBounds_toArray, List.set_cons_zero, List.set_cons_succ])
            refine aloneH (i := 44) rfl (by kernel_rfl) (fun K hK => ?_)
            rw [if_pos (by rfl)]
            go_simp; ((refine (HF2.out _).mono ?_); (rintro e w16 ⟨rfl, hb⟩); have HB6 := Lib.hid hb; clear hb; (try go_simp))
            refine hK.out _ _ (⟨cell_on HB6.out hHeld.1, cell_on HB6.out hHeld.2.1, cell_on HB6.out hHeld.2.2.1, cell_on HB6.out hHeld.2.2.2.1, cell_on HB6.out hHeld.2.2.2.2.1, cell_on HB6.out hHeld.2.2.2.2.2.1, heap_on HB6.out hHeld.2.2.2.2.2.2.1, heap_on HB6.out hHeld.2.2.2.2.2.2.2.1, heap_on HB6.out hHeld.2.2.2.2.2.2.2.2.1, heap_on HB6.out hHeld.2.2.2.2.2.2.2.2.2.1, heap_on HB6.out hHeld.2.2.2.2.2.2.2.2.2.2⟩) (fun hNew => ?_)
            clear hK K hHeld; (have hHeld := hNew); clear hNew; (try simp only [Act.put, List.setIfInBounds_toArray, List.set_cons_zero, List.set_cons_succ])
            (refine takeH (i := 45) (v := ?_) rfl (by kernel_rfl) (by kernel_rfl) (by kernel_rfl) (fun _ _ _ h => h) (Or.inl ⟨by rfl, ?_⟩) (by assumption) ?_; rotate_left; (focus ((intro wS hSw); (try dsimp only at hSw); obtain ⟨s0, s1, s2, s3, s4, s5, s6, s7, s8, s9, s10⟩ := hSw; go_simp; (try with_reducible rfl); done)); (try simp only [Act.put, List.setIfInBounds_toArray, List.set_cons_zero, List.set_cons_succ]))
            (refine takeH (i := 46) (v := ?_) rfl (by kernel_rfl) (by kernel_rfl) (by kernel_rfl) (fun _ _ _ h => h) (Or.inl ⟨by rfl, ?_⟩) (by assumption) ?_; rotate_left; (focus ((intro wS hSw); (try dsimp only at hSw); obtain ⟨s0, s1, s2, s3, s4, s5, s6, s7, s8, s9, s10⟩ := hSw; go_simp; (try with_reducible rfl); done)); (try simp only [Act.put, List.setIfInBounds_toArray, List.set_cons_zero, List.set_cons_succ]))
            (refine takeH (i := 47) (v := ?_) rfl (by kernel_rfl) (by kernel_rfl) (by kernel_rfl) (fun _ _ _ h => h) (Or.inl ⟨by rfl, ?_⟩) (by assumption) ?_; rotate_left; (focus ((intro wS hSw); (try dsimp only at hSw); obtain ⟨s0, s1, s2, s3, s4, s5, s6, s7, s8, s9, s10⟩ := hSw; go_simp; (try with_reducible rfl); done)); (try simp only [Act.put, List.setIfInBounds_toArray, List.set_cons_zero, List.set_cons_succ]))
            (refine takeH (i := 48) (v := ?_) rfl (by kernel_rfl) (by kernel_rfl) (by kernel_rfl) (fun _ _ _ h => h) (Or.inl ⟨by rfl, ?_⟩) (by assumption) ?_; rotate_left; (focus ((intro wS hSw); (try dsimp only at hSw); obtain ⟨s0, s1, s2, s3, s4, s5, s6, s7, s8, s9, s10⟩ := hSw; go_simp; (try with_reducible rfl); done)); (try simp only [Act.put, List.setIfInBounds_toArray, List.set_cons_zero, List.set_cons_succ]))
            (refine takeH (i := 50) (v := ?_) rfl (by kernel_rfl) (by kernel_rfl) (by kernel_rfl) (fun _ _ _ h => h) (Or.inl ⟨by rfl, ?_⟩) (by assumption) ?_; rotate_left; (focus ((intro wS hSw); (try dsimp only at hSw); obtain ⟨s0, s1, s2, s3, s4, s5, s6, s7, s8, s9, s10⟩ := hSw; go_simp; (try with_reducible rfl); done)); (try simp only [Act.put, List.setIfInBounds_toArray, List.set_cons_zero, List.set_cons_succ]))
            refine aloneH (i := 49) rfl (by kernel_rfl) (fun K hK => ?_)
            rw [if_pos (by rfl)]
            go_simp; ((refine (HKd.out _ (HCd.out.on (below_then (below_then (below_then (below_then (below_then HB1.out HB2.out) HB3.out) HB4.out) HB5.out) HB6.out))).mono ?_); (rintro e w17 ⟨rfl, rfl⟩); (try go_simp))
            have HB7 : Hid (Below w16.heap.size w16 w16) := Lib.hid (Below.refl _ _)
            refine hK.out _ _ (hHeld) (fun hNew => ?_)
            clear hK K hHeld; (have hHeld := hNew); clear hNew; (try simp only [Act.put, List.setIfInBounds_toArray, List.set_cons_zero, List.set_cons_succ])
            (refine takeH (i := 51) (v := ?_) rfl (by kernel_rfl) (by kernel_rfl) (by kernel_rfl) (fun _ _ _ h => h) (Or.inl ⟨by rfl, ?_⟩) (by assumption) ?_; rotate_left; (focus ((intro wS hSw); (try dsimp only at hSw); obtain ⟨s0, s1, s2, s3, s4, s5, s6, s7, s8, s9, s10⟩ := hSw; go_simp; (try with_reducible rfl); done)); (try simp only [Act.put, List.setIfInBounds_toArray, List.set_cons_zero, List.set_cons_succ]))
            (refine takeH (i := 52) (v := ?_) rfl (by kernel_rfl) (by kernel_rfl) (by kernel_rfl) (fun _ _ _ h => h) (Or.inl ⟨by rfl, ?_⟩) (by assumption) ?_; rotate_left; (focus ((intro wS hSw); (try dsimp only at hSw); obtain ⟨s0, s1, s2, s3, s4, s5, s6, s7, s8, s9, s10⟩ := hSw; go_simp; (try with_reducible rfl); done)); (try simp only [Act.put, List.setIfInBounds_toArray, List.set_cons_zero, List.set_cons_succ]))
            (refine takeH (i := 53) (v := ?_) rfl (by kernel_rfl) (by kernel_rfl) (by kernel_rfl) (fun _ _ _ h => h) (Or.inl ⟨by rfl, ?_⟩) (by assumption) ?_; rotate_left; (focus ((intro wS hSw); (try dsimp only at hSw); obtain ⟨s0, s1, s2, s3, s4, s5, s6, s7, s8, s9, s10⟩ := hSw; go_simp; (try with_reducible rfl); done)); (try simp only [Act.put, List.setIfInBounds_toArray, List.set_cons_zero, List.set_cons_succ]))
            (refine takeH (i := 54) (v := ?_) rfl (by kernel_rfl) (by kernel_rfl) (by kernel_rfl) (fun _ _ _ h => h) (Or.inl ⟨by rfl, ?_⟩) (by assumption) ?_; rotate_left; (focus ((intro wS hSw); (try dsimp only at hSw); obtain ⟨s0, s1, s2, s3, s4, s5, s6, s7, s8, s9, s10⟩ := hSw; go_simp; (try with_reducible rfl); done)); (try simp only [Act.put, List.setIfInBounds_toArray, List.set_cons_zero, List.set_cons_succ]))
            (refine takeH (i := 56) (v := (.agg #[.int .i64 k, .int .i64 f1, .int .i64 f2, .int .i64 da, .int .i64 db])) rfl (by kernel_rfl) (by kernel_rfl) (by kernel_rfl) (fun _ _ _ h => h) (yieldsIf_load_rowE (by rfl) 31 (.tmp 12) rfl G rfl 31 #[.int .i64 k, .int .i64 f1, .int .i64 f2, .int .i64 da, .int .i64 db] (0, 0) _ (fun W h => h.2.2.2.2.2.2.1) Try.underlying31 rfl (by kernel_rfl)) (by assumption) ?_; (try simp only [Act.put, List.setIfInBounds_toArray, List.set_cons_zero, List.set_cons_succ]))
            refine aloneH (i := 55) rfl (by kernel_rfl) (fun K hK => ?_)
            rw [if_pos (by rfl)]
            go_simp; ((refine (HFl.out _ (HCd.out.on (below_then (below_then (below_then (below_then (below_then (below_then HB1.out HB2.out) HB3.out) HB4.out) HB5.out) HB6.out) HB7.out))).mono ?_); (rintro e w18 ⟨A1, cp1, rfl, hrow, hb⟩); have HW1 := Lib.hid hrow; have HB8 := Lib.hid hb; clear hb hrow; (try go_simp))
            refine hK.out _ _ (⟨cell_on HB8.out hHeld.1, cell_on HB8.out hHeld.2.1, cell_on HB8.out hHeld.2.2.1, cell_on HB8.out hHeld.2.2.2.1, cell_on HB8.out hHeld.2.2.2.2.1, cell_on HB8.out hHeld.2.2.2.2.2.1, heap_on HB8.out hHeld.2.2.2.2.2.2.1, heap_on HB8.out hHeld.2.2.2.2.2.2.2.1, heap_on HB8.out hHeld.2.2.2.2.2.2.2.2.1, heap_on HB8.out hHeld.2.2.2.2.2.2.2.2.2.1, heap_on HB8.out hHeld.2.2.2.2.2.2.2.2.2.2⟩) (fun hNew => ?_)
            clear hK K hHeld; (have hHeld := hNew); clear hNew; (try simp only [Act.put, List.setIfInBounds_toArray, List.set_cons_zero, List.set_cons_succ])
            refine aloneH (i := 57) rfl (by kernel_rfl) (fun K hK => ?_)
            rw [if_pos (by rfl)]
            go_simp; ((refine (HAl.out _).mono ?_); (rintro e w19 ⟨A2, cp2, rfl, hrow, hb⟩); have HW2 := Lib.hid hrow; have HW1b := Lib.hid (HW1.out.on hb); have HB9 := Lib.hid hb; clear hb hrow; (try go_simp))
            refine hK.out _ _ (⟨cell_on HB9.out hHeld.1, cell_on HB9.out hHeld.2.1, cell_on HB9.out hHeld.2.2.1, cell_on HB9.out hHeld.2.2.2.1, cell_on HB9.out hHeld.2.2.2.2.1, cell_on HB9.out hHeld.2.2.2.2.2.1, heap_on HB9.out hHeld.2.2.2.2.2.2.1, heap_on HB9.out hHeld.2.2.2.2.2.2.2.1, heap_on HB9.out hHeld.2.2.2.2.2.2.2.2.1, heap_on HB9.out hHeld.2.2.2.2.2.2.2.2.2.1, heap_on HB9.out hHeld.2.2.2.2.2.2.2.2.2.2⟩) (fun hNew => ?_)
            clear hK K hHeld; (have hHeld := hNew); clear hNew; (try simp only [Act.put, List.setIfInBounds_toArray, List.set_cons_zero, List.set_cons_succ])
            refine aloneH (i := 58) rfl (by kernel_rfl) (fun K hK => ?_)
            rw [if_pos (by rfl)]
            go_simp; ((refine (same_yes _ A1 A2 cp1 cp2 LL HW1b.out HW2.out HLl.out).mono ?_); (rintro e w110 ⟨rfl, hb⟩); have HB10 := Lib.hid hb; clear hb; (try go_simp))
            refine hK.out _ _ (⟨cell_on HB10.out hHeld.1, cell_on HB10.out hHeld.2.1, cell_on HB10.out hHeld.2.2.1, cell_on HB10.out hHeld.2.2.2.1, cell_on HB10.out hHeld.2.2.2.2.1, cell_on HB10.out hHeld.2.2.2.2.2.1, heap_on HB10.out hHeld.2.2.2.2.2.2.1, heap_on HB10.out hHeld.2.2.2.2.2.2.2.1, heap_on HB10.out hHeld.2.2.2.2.2.2.2.2.1, heap_on HB10.out hHeld.2.2.2.2.2.2.2.2.2.1, heap_on HB10.out hHeld.2.2.2.2.2.2.2.2.2.2⟩) (fun hNew => ?_)
            clear hK K hHeld; (have hHeld := hNew); clear hNew; (try simp only [Act.put, List.setIfInBounds_toArray, List.set_cons_zero, List.set_cons_succ])
            (refine takeH (i := 59) (v := ?_) rfl (by kernel_rfl) (by kernel_rfl) (by kernel_rfl) (fun _ _ _ h => h) (Or.inl ⟨by rfl, ?_⟩) (by assumption) ?_; rotate_left; (focus ((intro wS hSw); (try dsimp only at hSw); obtain ⟨s0, s1, s2, s3, s4, s5, s6, s7, s8, s9, s10⟩ := hSw; go_simp; (try with_reducible rfl); done)); (try simp only [Act.put, List.setIfInBounds_toArray, List.set_cons_zero, List.set_cons_succ]))
            (refine takeH (i := 60) (v := ?_) rfl (by kernel_rfl) (by kernel_rfl) (by kernel_rfl) (fun _ _ _ h => h) (Or.inl ⟨by rfl, ?_⟩) (by assumption) ?_; rotate_left; (focus ((intro wS hSw); (try dsimp only at hSw); obtain ⟨s0, s1, s2, s3, s4, s5, s6, s7, s8, s9, s10⟩ := hSw; go_simp; (try with_reducible rfl); done)); (try simp only [Act.put, List.setIfInBounds_toArray, List.set_cons_zero, List.set_cons_succ]))
            refine wpAnyH_done (by kernel_rfl) ?_ _
            have b1 := (below_then (below_then (below_then (below_then (below_then (below_then (below_then (below_then (below_then HB1.out HB2.out) HB3.out) HB4.out) HB5.out) HB6.out) HB7.out) HB8.out) HB9.out) HB10.out)
            have HIz : Hid (PlI w G k F a0 ak ay ai P (j + 1) (c.fi pk py pi) w110) := Lib.hid ⟨HCd.out.on b1, HOk1.out, HKFz.out.1, HKFz.out.2.1, HKFz.out.2.2, by rw [HRow1.out]; exact heap_on b1 HGd.out, heap_on b1 HAd.out, below_any HBd.out (Nat.le_refl _) b1, HPgz.out, HPaz.out, HGa.out⟩
            clear b1 hHeld HBd HCd HGd HAd HXd
            go_wp2
            go_roundw
            case rel => exact ⟨j + 1, P, _, HJ.out.2, by go_num, rfl, HIz⟩
            case measure => rw [hw]; exact roundsLeft_next _ _ HJ.out.2
        · by_cases h2 : s0 = 2
          · subst h2
            as_aux_lemma =>
              obtain ⟨nk, ny, ni, hn1⟩ : ∃ nk ny ni : Int, ∀ W, Calls Try.prog 10 #[.agg #[.int .i64 k, .int .i64 f1, .int .i64 f2, .int .i64 ca, .int .i64 cb]] W fun e w' => e = .returned (.agg #[.int .i64 nk, .int .i64 ny, .int .i64 ni]) ∧ Below W.heap.size W w' :=
                ⟨_, _, _, fun W => by have := ref_first27 W c HOk.out; rw [HRow.out] at this; exact this⟩
              have HFn := Lib.hid hn1
              clear hn1
              obtain ⟨g0, g1, g2, g3, g4⟩ := cells5_row HG0.out
              go_wp2_with (go_at_call 10; refine (HFn.out _).mono ?_; rintro e w2 ⟨rfl, hb⟩; have HC2 := Lib.hid (HC0.out.on hb); have HG2 := Lib.hid (heap_on hb HG0.out); have HX2 := Lib.hid (heap_on hb HX0.out); have HA2 := Lib.hid (heap_on hb HA0.out); have HB2 := Lib.hid (below_any HB0.out (Nat.le_refl _) hb); clear hb; refine Stop.out ?_)
              unfold Stop
              clear y0 y1 y2 y3 g0 g1 g2 g3 g4
              obtain ⟨z1, z2, z3⟩ := frozen4_row HX2.out
              obtain ⟨x0, x1, x2, x3⟩ := cells4_row HX2.out
              have hcg := chg_put1 w2 wr.heap.size (.int .i64 nk) (.int .i64 ny) (.int .i64 ni)
              have HX3 := Lib.hid (row_put1 (.int .i64 nk) (.int .i64 ny) (.int .i64 ni) HX2.out)
              have HC3 : Hid (CkAt _ P c) := Lib.hid ((hcg.block P (heapLt HC2.out) HNe.out.1.symm).trans HC2.out)
              have HG3 := Lib.hid ((hcg.block G (heapLt HG2.out) HNe.out.2.1.symm).trans HG2.out)
              have HA3 := Lib.hid ((hcg.block _ (heapLt HA2.out) HNe.out.2.2.symm).trans HA2.out)
              have HB3 := Lib.hid (HB2.out.trans (hcg.below (base := w.heap.size) HB2.out.size (Nat.le_of_lt (Nat.lt_of_lt_of_le HGa.out (Nat.le_of_lt hlg)))))
              clear hcg HX2 HC2 HA2 HB2 HG2
              obtain ⟨er, her⟩ : ∃ er, er = c.clE nk ny ni := ⟨_, rfl⟩
              have hk1 := Ck.cl_ok HOk.out nk ny ni
              obtain ⟨da, hda⟩ : ∃ da, da = (c.cl nk ny ni).A - (c.cl nk ny ni).F := ⟨_, rfl⟩
              obtain ⟨db, hdb⟩ : ∃ db, db = (c.cl nk ny ni).B - (c.cl nk ny ni).F := ⟨_, rfl⟩
              have HRz : Hid (cRow (c.cl nk ny ni) = #[.int .i64 k, .int .i64 f1, .int .i64 f2, .int .i64 da, .int .i64 db]) := Lib.hid (by unfold cRow; rw [hda, hdb, hk1.2.1, hk1.2.2.1, HKF.out.1, HKF.out.2.1, ← HF.out.1, ← HF.out.2])
              have HOp : Hid (∀ W, CkAt W P c → Calls Try.prog 12 #[.pointer (some ⟨P, 0, none⟩), .agg #[.int .i64 nk, .int .i64 ny, .int .i64 ni]] W (StepP W P (c.cl nk ny ni) er)) := Lib.hid (fun W h => by rw [her]; exact code_close W P c nk ny ni h HOk.out)
              have HOd : Hid (∀ W, Calls Try.prog 13 #[.agg #[.int .i64 k, .int .i64 f1, .int .i64 f2, .int .i64 ca, .int .i64 cb], .agg #[.int .i64 nk, .int .i64 ny, .int .i64 ni]] W fun e w' => e = .returned (.tuple #[.agg #[.int .i64 k, .int .i64 f1, .int .i64 f2, .int .i64 da, .int .i64 db], .int .i64 er]) ∧ Below W.heap.size W w') := Lib.hid (fun W => by have := ref_close W c HOk.out nk ny ni; rw [HRow.out, HRz.out, ← her] at this; exact this)
              have HKFz : Hid ((c.cl nk ny ni).k = k ∧ (c.cl nk ny ni).F = F ∧ (c.cl nk ny ni).B - (c.cl nk ny ni).F ≤ ((j + 1 : Nat) : Int)) := Lib.hid ⟨hk1.2.1.trans HKF.out.1, hk1.2.2.1.trans HKF.out.2.1, by have h7 := hk1.2.2.2; have h8 := HKF.out.2.2; rw [hk1.2.2.1]; omega⟩
              have HOkz := Lib.hid hk1.1
              have HPgz := HPg
              have HPaz := HPa
              clear her hk1 hda hdb
              go_wp2_with (go_at_call 12; refine (HOp.out _ HC3.out).mono ?_; rintro e w5 hs; have HX5 := Lib.hid (hs.on HX3.out HNe.out.1); have HA5 := Lib.hid (hs.on HA3.out (Nat.ne_of_lt HPa.out)); have HG5 := Lib.hid (hs.on HG3.out HPg.out.symm); have HC5 := Lib.hid hs.2.1; have HB5 := Lib.hid (HB3.out.trans (hs.2.2.below (base := w.heap.size) HB3.out.size (Nat.le_of_lt HPa.out))); obtain rfl := hs.1; clear hs; refine Stop.out ?_)
              unfold Stop
              clear x0 x1 x2 x3 z1 z2 z3
              obtain ⟨x0, x1, x2, x3⟩ := cells4_row HX5.out
              obtain ⟨g0, g1, g2, g3, g4⟩ := cells5_row HG5.out
              go_wp2_with (go_at_call 13; refine (HOd.out _).mono ?_; rintro e w6 ⟨rfl, hb⟩; have HX6 := Lib.hid (heap_on hb HX5.out); have HA6 := Lib.hid (heap_on hb HA5.out); have HG6 := Lib.hid (heap_on hb HG5.out); have HC6 := Lib.hid (HC5.out.on hb); have HB6 := Lib.hid (below_any HB5.out (Nat.le_refl _) hb); clear hb; refine Stop.out ?_)
              unfold Stop
              clear x0 x1 x2 x3 g0 g1 g2 g3 g4
              obtain ⟨g0, g1, g2, g3, g4⟩ := cells5_row HG6.out
              obtain ⟨e0, e1, e2, e3, e4⟩ := frozen5_row HG6.out
              have HXz := Lib.hid (far_put5 (a := .int .i64 k) (b := .int .i64 f1) (c := .int .i64 f2) (d := .int .i64 da) (e := .int .i64 db) HX6.out HNe.out.2.1)
              have HAz := Lib.hid (far_put5 (a := .int .i64 k) (b := .int .i64 f1) (c := .int .i64 f2) (d := .int .i64 da) (e := .int .i64 db) HA6.out (Nat.ne_of_lt HGa.out))
              have HCz : Hid (CkAt _ P (c.cl nk ny ni)) := Lib.hid (far_put5 (a := .int .i64 k) (b := .int .i64 f1) (c := .int .i64 f2) (d := .int .i64 da) (e := .int .i64 db) HC6.out HPg.out)
              have HGz := Lib.hid (put5_row (.int .i64 k) (.int .i64 f1) (.int .i64 f2) (.int .i64 da) (.int .i64 db) HG6.out)
              have HBz := Lib.hid (below_put5 (a := .int .i64 k) (b := .int .i64 f1) (c := .int .i64 f2) (d := .int .i64 da) (e := .int .i64 db) HB6.out (Nat.le_of_lt HGa.out))
              have ok1 : (c.cl nk ny ni).Ok := HOkz.out
              have HRow1 : Hid (cRow (c.cl nk ny ni) = #[.int .i64 k, .int .i64 f1, .int .i64 f2, .int .i64 da, .int .i64 db]) := HRz
              obtain ⟨p1, p2, p3, o1, o2, o3, re, hrc, hrd⟩ := routes_both (c.cl nk ny ni) ok1 when_
              rw [HRow1.out] at hrd
              have HRc := Lib.hid (hrc P)
              have HRd := Lib.hid hrd
              obtain ⟨v1, hv1⟩ : ∃ v1, v1 = (c.cl nk ny ni).st ak ay ai := ⟨_, rfl⟩
              obtain ⟨v2, hv2⟩ : ∃ v2, v2 = (c.cl nk ny ni).st nk ny ni := ⟨_, rfl⟩
              have HS1 : Hid (∀ W, CkAt W P (c.cl nk ny ni) → Calls Try.prog 19 #[.pointer (some ⟨P, 0, none⟩), .agg #[.int .i64 ak, .int .i64 ay, .int .i64 ai]] W fun e w' => e = .returned (.int .i64 v1) ∧ Below W.heap.size W w') := Lib.hid (fun W h => by rw [hv1]; exact code_state W _ _ _ _ _ h ok1)
              have HS2 : Hid (∀ W, Calls Try.prog 20 #[.agg #[.int .i64 k, .int .i64 f1, .int .i64 f2, .int .i64 da, .int .i64 db], .agg #[.int .i64 ak, .int .i64 ay, .int .i64 ai]] W fun e w' => e = .returned (.int .i64 v1) ∧ Below W.heap.size W w') := Lib.hid (fun W => by have := ref_state W _ ok1 ak ay ai; rw [HRow1.out, ← hv1] at this; exact this)
              have HS3 : Hid (∀ W, CkAt W P (c.cl nk ny ni) → Calls Try.prog 19 #[.pointer (some ⟨P, 0, none⟩), .agg #[.int .i64 nk, .int .i64 ny, .int .i64 ni]] W fun e w' => e = .returned (.int .i64 v2) ∧ Below W.heap.size W w') := Lib.hid (fun W h => by rw [hv2]; exact code_state W _ _ _ _ _ h ok1)
              have HS4 : Hid (∀ W, Calls Try.prog 20 #[.agg #[.int .i64 k, .int .i64 f1, .int .i64 f2, .int .i64 da, .int .i64 db], .agg #[.int .i64 nk, .int .i64 ny, .int .i64 ni]] W fun e w' => e = .returned (.int .i64 v2) ∧ Below W.heap.size W w') := Lib.hid (fun W => by have := ref_state W _ ok1 nk ny ni; rw [HRow1.out, ← hv2] at this; exact this)
              obtain ⟨q1, q2, q3, hq1, hq2⟩ : ∃ q1 q2 q3 : Int, (∀ W, CkAt W P (c.cl nk ny ni) → Calls Try.prog 21 #[.pointer (some ⟨P, 0, none⟩)] W fun e w' => e = .returned (.agg #[.int .i64 q1, .int .i64 q2, .int .i64 q3]) ∧ Below W.heap.size W w') ∧ (∀ W, Calls Try.prog 10 #[.agg #[.int .i64 k, .int .i64 f1, .int .i64 f2, .int .i64 da, .int .i64 db]] W fun e w' => e = .returned (.agg #[.int .i64 q1, .int .i64 q2, .int .i64 q3]) ∧ Below W.heap.size W w') :=
                ⟨_, _, _, fun W h => code_first_ W _ _ h ok1, fun W => by have := ref_first27 W _ ok1; rw [HRow1.out] at this; exact this⟩
              have HF1 := Lib.hid hq1
              have HF2 := Lib.hid hq2
              have HKd : Hid (∀ W, CkAt W P (c.cl nk ny ni) → Calls Try.prog 22 #[.pointer (some ⟨P, 0, none⟩)] W fun e w' => e = .returned (.int .i64 k) ∧ W = w') := Lib.hid (fun W h => by have := code_kind_ W _ _ h ok1; rw [show (c.cl nk ny ni).k = k from HKFz.out.1] at this; exact this)
              have hfew : (c.cl nk ny ni).B - (c.cl nk ny ni).F ≤ ((j + 1 : Nat) : Int) := HKFz.out.2.2
              obtain ⟨mm, hmm⟩ : ∃ mm : Nat, (c.cl nk ny ni).F + mm = (c.cl nk ny ni).B := ⟨((c.cl nk ny ni).B - (c.cl nk ny ni).F).toNat, by have := ok1.fb; omega⟩
              obtain ⟨LL, hLL⟩ : ∃ LL, LL = persL (c.cl nk ny ni).k (c.cl nk ny ni).F mm := ⟨_, rfl⟩
              have hm9 : mm ≤ 900 := by have := HL.out; have := HJ.out.2; omega
              have HLl : Hid (LL.length ≤ 1000) := Lib.hid (by rw [hLL, persL_len]; omega)
              have HFl : Hid (∀ W, CkAt W P (c.cl nk ny ni) → Calls Try.prog 24 #[.pointer (some ⟨P, 0, none⟩)] W fun e w' => ∃ A cp, e = .returned (.slice A LL.length cp) ∧ RowPerV w' A LL ∧ Below W.heap.size W w') := Lib.hid (fun W h => by rw [hLL]; exact (code_filed W _ _ h ok1 mm hmm hm9).mono fun e w' q => rows_of q)
              have HAl : Hid (∀ W, Calls Try.prog 25 #[.agg #[.int .i64 k, .int .i64 f1, .int .i64 f2, .int .i64 da, .int .i64 db]] W fun e w' => ∃ A cp, e = .returned (.slice A LL.length cp) ∧ RowPerV w' A LL ∧ Below W.heap.size W w') := Lib.hid (fun W => by rw [hLL]; have := ref_all W _ ok1 mm hmm hm9; rw [HRow1.out] at this; exact this.mono fun e w' q => rows_of q)
              have HOk1 := Lib.hid ok1
              clear ok1 hrc hrd hv1 hv2 hq1 hq2 hfew hmm hLL hm9
              go_wp2_with (go_at_call 17; refine (HRc.out _ HCz.out).mono ?_; rintro e w8 ⟨rfl, hb⟩; have HC8 := Lib.hid (HCz.out.on hb); have HG8 := Lib.hid (heap_on hb HGz.out); have HA8 := Lib.hid (heap_on hb HAz.out); have HX8 := Lib.hid (heap_on hb HXz.out); have HB8 := Lib.hid (below_any HBz.out (Nat.le_refl _) hb); clear hb; refine Stop.out ?_)
              unfold Stop
              clear g0 g1 g2 g3 g4 e0 e1 e2 e3 e4
              have b8 := below_then (below_alloc w8 (.cells #[.int .i64 p1, .int .i64 p2, .int .i64 p3] 24)) (below_alloc _ (.cells #[.int .i64 o1, .int .i64 o2, .int .i64 o3] 24))
              have HC8b := Lib.hid (HC8.out.on b8)
              have HG8b := Lib.hid (heap_on b8 HG8.out)
              have HA8b := Lib.hid (heap_on b8 HA8.out)
              have HX8b := Lib.hid (heap_on b8 HX8.out)
              have HB8b := Lib.hid (below_any HB8.out (Nat.le_refl _) b8)
              have HP8b := Lib.hid (heap_on (below_alloc _ (.cells #[.int .i64 o1, .int .i64 o2, .int .i64 o3] 24)) (heap_alloc_new w8 (.cells #[.int .i64 p1, .int .i64 p2, .int .i64 p3] 24)))
              have HO8b := Lib.hid (heap_alloc_new2 w8 (.cells #[.int .i64 p1, .int .i64 p2, .int .i64 p3] 24) (.cells #[.int .i64 o1, .int .i64 o2, .int .i64 o3] 24))
              have hz8 : G < w8.heap.size := heapLt HG8.out
              clear b8
              obtain ⟨g0, g1, g2, g3, g4⟩ := cells5_row HG8.out
              go_wp2_with (go_at_call 18; refine (HRd.out _).mono ?_; rintro e w9 ⟨rfl, hb⟩; have HC9 := Lib.hid (HC8b.out.on hb); have HG9 := Lib.hid (heap_on hb HG8b.out); have HA9 := Lib.hid (heap_on hb HA8b.out); have HX9 := Lib.hid (heap_on hb HX8b.out); have HB9 := Lib.hid (below_any HB8b.out (Nat.le_refl _) hb); have HP9 := Lib.hid (heap_on hb HP8b.out); have HO9 := Lib.hid (heap_on hb HO8b.out); clear hb; refine Stop.out ?_)
              unfold Stop
              clear g0 g1 g2 g3 g4 hz8
              have b9 := below_then (below_alloc w9 (.cells #[.int .i64 p1, .int .i64 p2, .int .i64 p3] 24)) (below_alloc _ (.cells #[.int .i64 o1, .int .i64 o2, .int .i64 o3] 24))
              have HCd := Lib.hid (HC9.out.on b9.drew)
              have HGd := Lib.hid (heap_on b9.drew HG9.out)
              have HAd := Lib.hid (heap_on b9.drew HA9.out)
              have HXd := Lib.hid (heap_on b9.drew HX9.out)
              have HBd := Lib.hid (below_any HB9.out (Nat.le_refl _) b9).drew
              have hS := And.intro (heap_on b9.drew HP9.out) (And.intro (heap_on b9.drew HO9.out) (And.intro (heap_on (below_alloc _ (.cells #[.int .i64 o1, .int .i64 o2, .int .i64 o3] 24)) (heap_alloc_new w9 (.cells #[.int .i64 p1, .int .i64 p2, .int .i64 p3] 24))) (heap_alloc_new2 w9 (.cells #[.int .i64 p1, .int .i64 p2, .int .i64 p3] 24) (.cells #[.int .i64 o1, .int .i64 o2, .int .i64 o3] 24))))
              have hA := cells4_row HAd.out
              have hX := cells4_row HXd.out
              have HS := Lib.hid (And.intro hA.2.1 (And.intro hA.2.2.1 (And.intro hA.2.2.2 (And.intro hX.2.1 (And.intro hX.2.2.1 (And.intro hX.2.2.2 (And.intro HGd.out hS)))))))
              clear b9 hS hA hX
              go_wp2_with fail
              refine wp_region_held_drew (S := fun W => W.cell? ⟨w.heap.size, 1, none⟩ = some (.int .i64 ak) ∧ W.cell? ⟨w.heap.size, 2, none⟩ = some (.int .i64 ay) ∧ W.cell? ⟨w.heap.size, 3, none⟩ = some (.int .i64 ai) ∧ W.cell? ⟨wr.heap.size, 1, none⟩ = some (.int .i64 nk) ∧ W.cell? ⟨wr.heap.size, 2, none⟩ = some (.int .i64 ny) ∧ W.cell? ⟨wr.heap.size, 3, none⟩ = some (.int .i64 ni) ∧ W.heap[G]? = some (.cells #[.int .i64 k, .int .i64 f1, .int .i64 f2, .int .i64 da, .int .i64 db] 31 (0, 0)) ∧ W.heap[w8.heap.size]? = some (.cells #[.int .i64 p1, .int .i64 p2, .int .i64 p3] 24 (0, 0)) ∧ W.heap[(w8.heap.size + 1)]? = some (.cells #[.int .i64 o1, .int .i64 o2, .int .i64 o3] 24 (0, 0)) ∧ W.heap[w9.heap.size]? = some (.cells #[.int .i64 p1, .int .i64 p2, .int .i64 p3] 24 (0, 0)) ∧ W.heap[(w9.heap.size + 1)]? = some (.cells #[.int .i64 o1, .int .i64 o2, .int .i64 o3] 24 (0, 0))) (by kernel_rfl) HS.out ?_
              intro hHeld
              clear HS
              generalize ((w9.alloc (.cells #[.int .i64 p1, .int .i64 p2, .int .i64 p3] 24)).alloc (.cells #[.int .i64 o1, .int .i64 o2, .int .i64 o3] 24)).drew = wd at HBd HCd HGd HAd HXd hHeld ⊢
              (refine takeH (i := 0) (v := ?_) rfl (by kernel_rfl) (by kernel_rfl) (by kernel_rfl) (fun _ _ _ h => h) (Or.inl ⟨by rfl, ?_⟩) (by assumption) ?_; rotate_left; (focus ((intro wS hSw); (try dsimp only at hSw); obtain ⟨s0, s1, s2, s3, s4, s5, s6, s7, s8, s9, s10⟩ := hSw; go_simp; (try with_reducible rfl); done)); (try simp only [Act.put, List.setIfInBounds_toArray, List.set_cons_zero, List.set_cons_succ]))
              (refine takeH (i := 1) (v := ?_) rfl (by kernel_rfl) (by kernel_rfl) (by kernel_rfl) (fun _ _ _ h => h) (Or.inl ⟨by rfl, ?_⟩) (by assumption) ?_; rotate_left; (focus ((intro wS hSw); (try dsimp only at hSw); obtain ⟨s0, s1, s2, s3, s4, s5, s6, s7, s8, s9, s10⟩ := hSw; go_simp; (try with_reducible rfl); done)); (try simp only [Act.put, List.setIfInBounds_toArray, List.set_cons_zero, List.set_cons_succ]))
              (refine takeH (i := 2) (v := ?_) rfl (by kernel_rfl) (by kernel_rfl) (by kernel_rfl) (fun _ _ _ h => h) (Or.inl ⟨by rfl, ?_⟩) (by assumption) ?_; rotate_left; (focus ((intro wS hSw); (try dsimp only at hSw); obtain ⟨s0, s1, s2, s3, s4, s5, s6, s7, s8, s9, s10⟩ := hSw; go_simp; (try with_reducible rfl); done)); (try simp only [Act.put, List.setIfInBounds_toArray, List.set_cons_zero, List.set_cons_succ]))
              (refine takeH (i := 3) (v := ?_) rfl (by kernel_rfl) (by kernel_rfl) (by kernel_rfl) (fun _ _ _ h => h) (Or.inl ⟨by rfl, ?_⟩) (by assumption) ?_; rotate_left; (focus ((intro wS hSw); (try dsimp only at hSw); obtain ⟨s0, s1, s2, s3, s4, s5, s6, s7, s8, s9, s10⟩ := hSw; go_simp; (try with_reducible rfl); done)); (try simp only [Act.put, List.setIfInBounds_toArray, List.set_cons_zero, List.set_cons_succ]))
              (refine takeH (i := 4) (v := ?_) rfl (by kernel_rfl) (by kernel_rfl) (by kernel_rfl) (fun _ _ _ h => h) (Or.inl ⟨by rfl, ?_⟩) (by assumption) ?_; rotate_left; (focus ((intro wS hSw); (try dsimp only at hSw); obtain ⟨s0, s1, s2, s3, s4, s5, s6, s7, s8, s9, s10⟩ := hSw; go_simp; (try with_reducible rfl); done)); (try simp only [Act.put, List.setIfInBounds_toArray, List.set_cons_zero, List.set_cons_succ]))
              (refine takeH (i := 5) (v := ?_) rfl (by kernel_rfl) (by kernel_rfl) (by kernel_rfl) (fun _ _ _ h => h) (Or.inl ⟨by rfl, ?_⟩) (by assumption) ?_; rotate_left; (focus ((intro wS hSw); (try dsimp only at hSw); obtain ⟨s0, s1, s2, s3, s4, s5, s6, s7, s8, s9, s10⟩ := hSw; go_simp; (try with_reducible rfl); done)); (try simp only [Act.put, List.setIfInBounds_toArray, List.set_cons_zero, List.set_cons_succ]))
              (refine takeH (i := 6) (v := ?_) rfl (by kernel_rfl) (by kernel_rfl) (by kernel_rfl) (fun _ _ _ h => h) (Or.inl ⟨by rfl, ?_⟩) (by assumption) ?_; rotate_left; (focus ((intro wS hSw); (try dsimp only at hSw); obtain ⟨s0, s1, s2, s3, s4, s5, s6, s7, s8, s9, s10⟩ := hSw; go_simp; (try with_reducible rfl); done)); (try simp only [Act.put, List.setIfInBounds_toArray, List.set_cons_zero, List.set_cons_succ]))
              (refine takeH (i := 8) (v := (.agg #[.int .i64 k, .int .i64 f1, .int .i64 f2, .int .i64 da, .int .i64 db])) rfl (by kernel_rfl) (by kernel_rfl) (by kernel_rfl) (fun _ _ _ h => h) (yieldsIf_load_rowE (by rfl) 31 (.tmp 12) rfl G rfl 31 #[.int .i64 k, .int .i64 f1, .int .i64 f2, .int .i64 da, .int .i64 db] (0, 0) _ (fun W h => h.2.2.2.2.2.2.1) Try.underlying31 rfl (by kernel_rfl)) (by assumption) ?_; (try simp only [Act.put, List.setIfInBounds_toArray, List.set_cons_zero, List.set_cons_succ]))
              (refine takeH (i := 9) (v := ?_) rfl (by kernel_rfl) (by kernel_rfl) (by kernel_rfl) (fun _ _ _ h => h) (Or.inl ⟨by rfl, ?_⟩) (by assumption) ?_; rotate_left; (focus ((intro wS hSw); (try dsimp only at hSw); obtain ⟨s0, s1, s2, s3, s4, s5, s6, s7, s8, s9, s10⟩ := hSw; go_simp; (try with_reducible rfl); done)); (try simp only [Act.put, List.setIfInBounds_toArray, List.set_cons_zero, List.set_cons_succ]))
              (refine takeH (i := 10) (v := ?_) rfl (by kernel_rfl) (by kernel_rfl) (by kernel_rfl) (fun _ _ _ h => h) (Or.inl ⟨by rfl, ?_⟩) (by assumption) ?_; rotate_left; (focus ((intro wS hSw); (try dsimp only at hSw); obtain ⟨s0, s1, s2, s3, s4, s5, s6, s7, s8, s9, s10⟩ := hSw; go_simp; (try with_reducible rfl); done)); (try simp only [Act.put, List.setIfInBounds_toArray, List.set_cons_zero, List.set_cons_succ]))
              refine aloneH (i := 7) rfl (by kernel_rfl) (fun K hK => ?_)
              rw [if_pos (by rfl)]
              go_simp; ((refine (HS1.out _ (HCd.out.on (Below.refl _ wd))).mono ?_); (rintro e w11 ⟨rfl, hb⟩); have HB1 := Lib.hid hb; clear hb; (try go_simp))
              refine hK.out _ _ (⟨cell_on HB1.out hHeld.1, cell_on HB1.out hHeld.2.1, cell_on HB1.out hHeld.2.2.1, cell_on HB1.out hHeld.2.2.2.1, cell_on HB1.out hHeld.2.2.2.2.1, cell_on HB1.out hHeld.2.2.2.2.2.1, heap_on HB1.out hHeld.2.2.2.2.2.2.1, heap_on HB1.out hHeld.2.2.2.2.2.2.2.1, heap_on HB1.out hHeld.2.2.2.2.2.2.2.2.1, heap_on HB1.out hHeld.2.2.2.2.2.2.2.2.2.1, heap_on HB1.out hHeld.2.2.2.2.2.2.2.2.2.2⟩) (fun hNew => ?_)
              clear hK K hHeld; (have hHeld := hNew); clear hNew; (try simp only [Act.put, List.setIfInBounds_toArray, List.set_cons_zero, List.set_cons_succ])
              refine aloneH (i := 11) rfl (by kernel_rfl) (fun K hK => ?_)
              rw [if_pos (by rfl)]
              go_simp; ((refine (HS2.out _).mono ?_); (rintro e w12 ⟨rfl, hb⟩); have HB2 := Lib.hid hb; clear hb; (try go_simp))
              refine hK.out _ _ (⟨cell_on HB2.out hHeld.1, cell_on HB2.out hHeld.2.1, cell_on HB2.out hHeld.2.2.1, cell_on HB2.out hHeld.2.2.2.1, cell_on HB2.out hHeld.2.2.2.2.1, cell_on HB2.out hHeld.2.2.2.2.2.1, heap_on HB2.out hHeld.2.2.2.2.2.2.1, heap_on HB2.out hHeld.2.2.2.2.2.2.2.1, heap_on HB2.out hHeld.2.2.2.2.2.2.2.2.1, heap_on HB2.out hHeld.2.2.2.2.2.2.2.2.2.1, heap_on HB2.out hHeld.2.2.2.2.2.2.2.2.2.2⟩) (fun hNew => ?_)
              clear hK K hHeld; (have hHeld := hNew); clear hNew; (try simp only [Act.put, List.setIfInBounds_toArray, List.set_cons_zero, List.set_cons_succ])
              (refine takeH (i := 12) (v := ?_) rfl (by kernel_rfl) (by kernel_rfl) (by kernel_rfl) (fun _ _ _ h => h) (Or.inl ⟨by rfl, ?_⟩) (by assumption) ?_; rotate_left; (focus ((intro wS hSw); (try dsimp only at hSw); obtain ⟨s0, s1, s2, s3, s4, s5, s6, s7, s8, s9, s10⟩ := hSw; go_simp; (try with_reducible rfl); done)); (try simp only [Act.put, List.setIfInBounds_toArray, List.set_cons_zero, List.set_cons_succ]))
              (refine takeH (i := 13) (v := ?_) rfl (by kernel_rfl) (by kernel_rfl) (by kernel_rfl) (fun _ _ _ h => h) (Or.inl ⟨by rfl, ?_⟩) (by assumption) ?_; rotate_left; (focus ((intro wS hSw); (try dsimp only at hSw); obtain ⟨s0, s1, s2, s3, s4, s5, s6, s7, s8, s9, s10⟩ := hSw; go_simp; (try with_reducible rfl); done)); (try simp only [Act.put, List.setIfInBounds_toArray, List.set_cons_zero, List.set_cons_succ]))
              (refine takeH (i := 14) (v := ?_) rfl (by kernel_rfl) (by kernel_rfl) (by kernel_rfl) (fun _ _ _ h => h) (Or.inl ⟨by rfl, ?_⟩) (by assumption) ?_; rotate_left; (focus ((intro wS hSw); (try dsimp only at hSw); obtain ⟨s0, s1, s2, s3, s4, s5, s6, s7, s8, s9, s10⟩ := hSw; go_simp; (try with_reducible rfl); done)); (try simp only [Act.put, List.setIfInBounds_toArray, List.set_cons_zero, List.set_cons_succ]))
              (refine takeH (i := 15) (v := ?_) rfl (by kernel_rfl) (by kernel_rfl) (by kernel_rfl) (fun _ _ _ h => h) (Or.inl ⟨by rfl, ?_⟩) (by assumption) ?_; rotate_left; (focus ((intro wS hSw); (try dsimp only at hSw); obtain ⟨s0, s1, s2, s3, s4, s5, s6, s7, s8, s9, s10⟩ := hSw; go_simp; (try with_reducible rfl); done)); (try simp only [Act.put, List.setIfInBounds_toArray, List.set_cons_zero, List.set_cons_succ]))
              (refine takeH (i := 16) (v := ?_) rfl (by kernel_rfl) (by kernel_rfl) (by kernel_rfl) (fun _ _ _ h => h) (Or.inl ⟨by rfl, ?_⟩) (by assumption) ?_; rotate_left; (focus ((intro wS hSw); (try dsimp only at hSw); obtain ⟨s0, s1, s2, s3, s4, s5, s6, s7, s8, s9, s10⟩ := hSw; go_simp; (try with_reducible rfl); done)); (try simp only [Act.put, List.setIfInBounds_toArray, List.set_cons_zero, List.set_cons_succ]))
              (refine takeH (i := 17) (v := ?_) rfl (by kernel_rfl) (by kernel_rfl) (by kernel_rfl) (fun _ _ _ h => h) (Or.inl ⟨by rfl, ?_⟩) (by assumption) ?_; rotate_left; (focus ((intro wS hSw); (try dsimp only at hSw); obtain ⟨s0, s1, s2, s3, s4, s5, s6, s7, s8, s9, s10⟩ := hSw; go_simp; (try with_reducible rfl); done)); (try simp only [Act.put, List.setIfInBounds_toArray, List.set_cons_zero, List.set_cons_succ]))
              (refine takeH (i := 19) (v := (.agg #[.int .i64 k, .int .i64 f1, .int .i64 f2, .int .i64 da, .int .i64 db])) rfl (by kernel_rfl) (by kernel_rfl) (by kernel_rfl) (fun _ _ _ h => h) (yieldsIf_load_rowE (by rfl) 31 (.tmp 12) rfl G rfl 31 #[.int .i64 k, .int .i64 f1, .int .i64 f2, .int .i64 da, .int .i64 db] (0, 0) _ (fun W h => h.2.2.2.2.2.2.1) Try.underlying31 rfl (by kernel_rfl)) (by assumption) ?_; (try simp only [Act.put, List.setIfInBounds_toArray, List.set_cons_zero, List.set_cons_succ]))
              (refine takeH (i := 20) (v := ?_) rfl (by kernel_rfl) (by kernel_rfl) (by kernel_rfl) (fun _ _ _ h => h) (Or.inl ⟨by rfl, ?_⟩) (by assumption) ?_; rotate_left; (focus ((intro wS hSw); (try dsimp only at hSw); obtain ⟨s0, s1, s2, s3, s4, s5, s6, s7, s8, s9, s10⟩ := hSw; go_simp; (try with_reducible rfl); done)); (try simp only [Act.put, List.setIfInBounds_toArray, List.set_cons_zero, List.set_cons_succ]))
              (refine takeH (i := 21) (v := ?_) rfl (by kernel_rfl) (by kernel_rfl) (by kernel_rfl) (fun _ _ _ h => h) (Or.inl ⟨by rfl, ?_⟩) (by assumption) ?_; rotate_left; (focus ((intro wS hSw); (try dsimp only at hSw); obtain ⟨s0, s1, s2, s3, s4, s5, s6, s7, s8, s9, s10⟩ := hSw; go_simp; (try with_reducible rfl); done)); (try simp only [Act.put, List.setIfInBounds_toArray, List.set_cons_zero, List.set_cons_succ]))
              refine aloneH (i := 18) rfl (by kernel_rfl) (fun K hK => ?_)
              rw [if_pos (by rfl)]
              go_simp; ((refine (HS3.out _ (HCd.out.on (below_then HB1.out HB2.out))).mono ?_); (rintro e w13 ⟨rfl, hb⟩); have HB3 := Lib.hid hb; clear hb; (try go_simp))
              refine hK.out _ _ (⟨cell_on HB3.out hHeld.1, cell_on HB3.out hHeld.2.1, cell_on HB3.out hHeld.2.2.1, cell_on HB3.out hHeld.2.2.2.1, cell_on HB3.out hHeld.2.2.2.2.1, cell_on HB3.out hHeld.2.2.2.2.2.1, heap_on HB3.out hHeld.2.2.2.2.2.2.1, heap_on HB3.out hHeld.2.2.2.2.2.2.2.1, heap_on HB3.out hHeld.2.2.2.2.2.2.2.2.1, heap_on HB3.out hHeld.2.2.2.2.2.2.2.2.2.1, heap_on HB3.out hHeld.2.2.2.2.2.2.2.2.2.2⟩) (fun hNew => ?_)
              clear hK K hHeld; (have hHeld := hNew); clear hNew; (try simp only [Act.put, List.setIfInBounds_toArray, List.set_cons_zero, List.set_cons_succ])
              refine aloneH (i := 22) rfl (by kernel_rfl) (fun K hK => ?_)
              rw [if_pos (by rfl)]
              go_simp; ((refine (HS4.out _).mono ?_); (rintro e w14 ⟨rfl, hb⟩); have HB4 := Lib.hid hb; clear hb; (try go_simp))
              refine hK.out _ _ (⟨cell_on HB4.out hHeld.1, cell_on HB4.out hHeld.2.1, cell_on HB4.out hHeld.2.2.1, cell_on HB4.out hHeld.2.2.2.1, cell_on HB4.out hHeld.2.2.2.2.1, cell_on HB4.out hHeld.2.2.2.2.2.1, heap_on HB4.out hHeld.2.2.2.2.2.2.1, heap_on HB4.out hHeld.2.2.2.2.2.2.2.1, heap_on HB4.out hHeld.2.2.2.2.2.2.2.2.1, heap_on HB4.out hHeld.2.2.2.2.2.2.2.2.2.1, heap_on HB4.out hHeld.2.2.2.2.2.2.2.2.2.2⟩) (fun hNew => ?_)
              clear hK K hHeld; (have hHeld := hNew); clear hNew; (try simp only [Act.put, List.setIfInBounds_toArray, List.set_cons_zero, List.set_cons_succ])
              (refine takeH (i := 23) (v := ?_) rfl (by kernel_rfl) (by kernel_rfl) (by kernel_rfl) (fun _ _ _ h => h) (Or.inl ⟨by rfl, ?_⟩) (by assumption) ?_; rotate_left; (focus ((intro wS hSw); (try dsimp only at hSw); obtain ⟨s0, s1, s2, s3, s4, s5, s6, s7, s8, s9, s10⟩ := hSw; go_simp; (try with_reducible rfl); done)); (try simp only [Act.put, List.setIfInBounds_toArray, List.set_cons_zero, List.set_cons_succ]))
              (refine takeH (i := 24) (v := ?_) rfl (by kernel_rfl) (by kernel_rfl) (by kernel_rfl) (fun _ _ _ h => h) (Or.inl ⟨by rfl, ?_⟩) (by assumption) ?_; rotate_left; (focus ((intro wS hSw); (try dsimp only at hSw); obtain ⟨s0, s1, s2, s3, s4, s5, s6, s7, s8, s9, s10⟩ := hSw; go_simp; (try with_reducible rfl); done)); (try simp only [Act.put, List.setIfInBounds_toArray, List.set_cons_zero, List.set_cons_succ]))
              (refine takeH (i := 25) (v := ?_) rfl (by kernel_rfl) (by kernel_rfl) (by kernel_rfl) (fun _ _ _ h => h) (Or.inl ⟨by rfl, ?_⟩) (by assumption) ?_; rotate_left; (focus ((intro wS hSw); (try dsimp only at hSw); obtain ⟨s0, s1, s2, s3, s4, s5, s6, s7, s8, s9, s10⟩ := hSw; go_simp; (try with_reducible rfl); done)); (try simp only [Act.put, List.setIfInBounds_toArray, List.set_cons_zero, List.set_cons_succ]))
              (refine takeH (i := 26) (v := (.agg #[.int .i64 p1, .int .i64 p2, .int .i64 p3])) rfl (by kernel_rfl) (by kernel_rfl) (by kernel_rfl) (fun _ _ _ h => h) (yieldsIf_load_rowE (by rfl) 24 (.tmp 19) rfl w8.heap.size rfl 24 #[.int .i64 p1, .int .i64 p2, .int .i64 p3] (0, 0) _ (fun W h => h.2.2.2.2.2.2.2.1) Try.underlying24 rfl (by kernel_rfl)) (by assumption) ?_; (try simp only [Act.put, List.setIfInBounds_toArray, List.set_cons_zero, List.set_cons_succ]))
              (refine takeH (i := 27) (v := (.agg #[.int .i64 p1, .int .i64 p2, .int .i64 p3])) rfl (by kernel_rfl) (by kernel_rfl) (by kernel_rfl) (fun _ _ _ h => h) (yieldsIf_load_rowE (by rfl) 24 (.tmp 22) rfl w9.heap.size rfl 24 #[.int .i64 p1, .int .i64 p2, .int .i64 p3] (0, 0) _ (fun W h => h.2.2.2.2.2.2.2.2.2.1) Try.underlying24 rfl (by kernel_rfl)) (by assumption) ?_; (try simp only [Act.put, List.setIfInBounds_toArray, List.set_cons_zero, List.set_cons_succ]))
              (refine takeH (i := 28) (v := ?_) rfl (by kernel_rfl) (by kernel_rfl) (by kernel_rfl) (fun _ _ _ h => h) (Or.inl ⟨by rfl, ?_⟩) (by assumption) ?_; rotate_left; (focus ((intro wS hSw); (try dsimp only at hSw); obtain ⟨s0, s1, s2, s3, s4, s5, s6, s7, s8, s9, s10⟩ := hSw; go_simp; (try with_reducible rfl); done)); (try simp only [Act.put, List.setIfInBounds_toArray, List.set_cons_zero, List.set_cons_succ]))
              (refine takeH (i := 29) (v := ?_) rfl (by kernel_rfl) (by kernel_rfl) (by kernel_rfl) (fun _ _ _ h => h) (Or.inl ⟨by rfl, ?_⟩) (by assumption) ?_; rotate_left; (focus ((intro wS hSw); (try dsimp only at hSw); obtain ⟨s0, s1, s2, s3, s4, s5, s6, s7, s8, s9, s10⟩ := hSw; go_simp; (try with_reducible rfl); done)); (try simp only [Act.put, List.setIfInBounds_toArray, List.set_cons_zero, List.set_cons_succ]))
              (refine takeH (i := 30) (v := ?_) rfl (by kernel_rfl) (by kernel_rfl) (by kernel_rfl) (fun _ _ _ h => h) (Or.inl ⟨by rfl, ?_⟩) (by assumption) ?_; rotate_left; (focus ((intro wS hSw); (try dsimp only at hSw); obtain ⟨s0, s1, s2, s3, s4, s5, s6, s7, s8, s9, s10⟩ := hSw; go_simp; (try with_reducible rfl); done)); (try simp only [Act.put, List.setIfInBounds_toArray, List.set_cons_zero, List.set_cons_succ]))
              (refine takeH (i := 31) (v := (.agg #[.int .i64 o1, .int .i64 o2, .int .i64 o3])) rfl (by kernel_rfl) (by kernel_rfl) (by kernel_rfl) (fun _ _ _ h => h) (yieldsIf_load_rowE (by rfl) 24 (.tmp 20) rfl (w8.heap.size + 1) rfl 24 #[.int .i64 o1, .int .i64 o2, .int .i64 o3] (0, 0) _ (fun W h => h.2.2.2.2.2.2.2.2.1) Try.underlying24 rfl (by kernel_rfl)) (by assumption) ?_; (try simp only [Act.put, List.setIfInBounds_toArray, List.set_cons_zero, List.set_cons_succ]))
              (refine takeH (i := 32) (v := (.agg #[.int .i64 o1, .int .i64 o2, .int .i64 o3])) rfl (by kernel_rfl) (by kernel_rfl) (by kernel_rfl) (fun _ _ _ h => h) (yieldsIf_load_rowE (by rfl) 24 (.tmp 23) rfl (w9.heap.size + 1) rfl 24 #[.int .i64 o1, .int .i64 o2, .int .i64 o3] (0, 0) _ (fun W h => h.2.2.2.2.2.2.2.2.2.2) Try.underlying24 rfl (by kernel_rfl)) (by assumption) ?_; (try simp only [Act.put, List.setIfInBounds_toArray, List.set_cons_zero, List.set_cons_succ]))
              (refine takeH (i := 33) (v := ?_) rfl (by kernel_rfl) (by kernel_rfl) (by kernel_rfl) (fun _ _ _ h => h) (Or.inl ⟨by rfl, ?_⟩) (by assumption) ?_; rotate_left; (focus ((intro wS hSw); (try dsimp only at hSw); obtain ⟨s0, s1, s2, s3, s4, s5, s6, s7, s8, s9, s10⟩ := hSw; go_simp; (try with_reducible rfl); done)); (try simp only [Act.put, List.setIfInBounds_toArray, List.set_cons_zero, List.set_cons_succ]))
              (refine takeH (i := 34) (v := ?_) rfl (by kernel_rfl) (by kernel_rfl) (by kernel_rfl) (fun _ _ _ h => h) (Or.inl ⟨by rfl, ?_⟩) (by assumption) ?_; rotate_left; (focus ((intro wS hSw); (try dsimp only at hSw); obtain ⟨s0, s1, s2, s3, s4, s5, s6, s7, s8, s9, s10⟩ := hSw; go_simp; (try with_reducible rfl); done)); (try simp only [Act.put, List.setIfInBounds_toArray, List.set_cons_zero, List.set_cons_succ]))
              (refine takeH (i := 35) (v := ?_) rfl (by kernel_rfl) (by kernel_rfl) (by kernel_rfl) (fun _ _ _ h => h) (Or.inl ⟨by rfl, ?_⟩) (by assumption) ?_; rotate_left; (focus ((intro wS hSw); (try dsimp only at hSw); obtain ⟨s0, s1, s2, s3, s4, s5, s6, s7, s8, s9, s10⟩ := hSw; go_simp; (try with_reducible rfl); done)); (try simp only [Act.put, List.setIfInBounds_toArray, List.set_cons_zero, List.set_cons_succ]))
              (refine takeH (i := 36) (v := ?_) rfl (by kernel_rfl) (by kernel_rfl) (by kernel_rfl) (fun _ _ _ h => h) (Or.inl ⟨by rfl, ?_⟩) (by assumption) ?_; rotate_left; (focus ((intro wS hSw); (try dsimp only at hSw); obtain ⟨s0, s1, s2, s3, s4, s5, s6, s7, s8, s9, s10⟩ := hSw; go_simp; (try with_reducible rfl); done)); (try simp only [Act.put, List.setIfInBounds_toArray, List.set_cons_zero, List.set_cons_succ]))
              (refine takeH (i := 37) (v := ?_) rfl (by kernel_rfl) (by kernel_rfl) (by kernel_rfl) (fun _ _ _ h => h) (Or.inl ⟨by rfl, ?_⟩) (by assumption) ?_; rotate_left; (focus ((intro wS hSw); (try dsimp only at hSw); obtain ⟨s0, s1, s2, s3, s4, s5, s6, s7, s8, s9, s10⟩ := hSw; go_simp; (try with_reducible rfl); done)); (try simp only [Act.put, List.setIfInBounds_toArray, List.set_cons_zero, List.set_cons_succ]))
              (refine takeH (i := 38) (v := ?_) rfl (by kernel_rfl) (by kernel_rfl) (by kernel_rfl) (fun _ _ _ h => h) (Or.inl ⟨by rfl, ?_⟩) (by assumption) ?_; rotate_left; (focus ((intro wS hSw); (try dsimp only at hSw); obtain ⟨s0, s1, s2, s3, s4, s5, s6, s7, s8, s9, s10⟩ := hSw; go_simp; (try with_reducible rfl); done)); (try simp only [Act.put, List.setIfInBounds_toArray, List.set_cons_zero, List.set_cons_succ]))
              (refine takeH (i := 39) (v := ?_) rfl (by kernel_rfl) (by kernel_rfl) (by kernel_rfl) (fun _ _ _ h => h) (Or.inl ⟨by rfl, ?_⟩) (by assumption) ?_; rotate_left; (focus ((intro wS hSw); (try dsimp only at hSw); obtain ⟨s0, s1, s2, s3, s4, s5, s6, s7, s8, s9, s10⟩ := hSw; go_simp; (try with_reducible rfl); done)); (try simp only [Act.put, List.setIfInBounds_toArray, List.set_cons_zero, List.set_cons_succ]))
              (refine takeH (i := 40) (v := ?_) rfl (by kernel_rfl) (by kernel_rfl) (by kernel_rfl) (fun _ _ _ h => h) (Or.inl ⟨by rfl, ?_⟩) (by assumption) ?_; rotate_left; (focus ((intro wS hSw); (try dsimp only at hSw); obtain ⟨s0, s1, s2, s3, s4, s5, s6, s7, s8, s9, s10⟩ := hSw; go_simp; (try with_reducible rfl); done)); (try simp only [Act.put, List.setIfInBounds_toArray, List.set_cons_zero, List.set_cons_succ]))
              (refine takeH (i := 41) (v := ?_) rfl (by kernel_rfl) (by kernel_rfl) (by kernel_rfl) (fun _ _ _ h => h) (Or.inl ⟨by rfl, ?_⟩) (by assumption) ?_; rotate_left; (focus ((intro wS hSw); (try dsimp only at hSw); obtain ⟨s0, s1, s2, s3, s4, s5, s6, s7, s8, s9, s10⟩ := hSw; go_simp; (try with_reducible rfl); done)); (try simp only [Act.put, List.setIfInBounds_toArray, List.set_cons_zero, List.set_cons_succ]))
              (refine takeH (i := 43) (v := (.agg #[.int .i64 k, .int .i64 f1, .int .i64 f2, .int .i64 da, .int .i64 db])) rfl (by kernel_rfl) (by kernel_rfl) (by kernel_rfl) (fun _ _ _ h => h) (yieldsIf_load_rowE (by rfl) 31 (.tmp 12) rfl G rfl 31 #[.int .i64 k, .int .i64 f1, .int .i64 f2, .int .i64 da, .int .i64 db] (0, 0) _ (fun W h => h.2.2.2.2.2.2.1) Try.underlying31 rfl (by kernel_rfl)) (by assumption) ?_; (try simp only [Act.put, List.setIfInBounds_toArray, List.set_cons_zero, List.set_cons_succ]))
              refine aloneH (i := 42) rfl (by kernel_rfl) (fun K hK => ?_)
              rw [if_pos (by rfl)]
              go_simp; ((refine (HF1.out _ (HCd.out.on (below_then (below_then (below_then HB1.out HB2.out) HB3.out) HB4.out))).mono ?_); (rintro e w15 ⟨rfl, hb⟩); have HB5 := Lib.hid hb; clear hb; (try go_simp))
              refine hK.out _ _ (⟨cell_on HB5.out hHeld.1, cell_on HB5.out hHeld.2.1, cell_on HB5.out hHeld.2.2.1, cell_on HB5.out hHeld.2.2.2.1, cell_on HB5.out hHeld.2.2.2.2.1, cell_on HB5.out hHeld.2.2.2.2.2.1, heap_on HB5.out hHeld.2.2.2.2.2.2.1, heap_on HB5.out hHeld.2.2.2.2.2.2.2.1, heap_on HB5.out hHeld.2.2.2.2.2.2.2.2.1, heap_on HB5.out hHeld.2.2.2.2.2.2.2.2.2.1, heap_on HB5.out hHeld.2.2.2.2.2.2.2.2.2.2⟩) (fun hNew => ?_)
              clear hK K hHeld; (have hHeld := hNew); clear hNew; (try simp only [Act.put, List.setIfInBounds_toArray, List.set_cons_zero, List.set_cons_succ])
              refine aloneH (i := 44) rfl (by kernel_rfl) (fun K hK => ?_)
              rw [if_pos (by rfl)]
              go_simp; ((refine (HF2.out _).mono ?_); (rintro e w16 ⟨rfl, hb⟩); have HB6 := Lib.hid hb; clear hb; (try go_simp))
              refine hK.out _ _ (⟨cell_on HB6.out hHeld.1, cell_on HB6.out hHeld.2.1, cell_on HB6.out hHeld.2.2.1, cell_on HB6.out hHeld.2.2.2.1, cell_on HB6.out hHeld.2.2.2.2.1, cell_on HB6.out hHeld.2.2.2.2.2.1, heap_on HB6.out hHeld.2.2.2.2.2.2.1, heap_on HB6.out hHeld.2.2.2.2.2.2.2.1, heap_on HB6.out hHeld.2.2.2.2.2.2.2.2.1, heap_on HB6.out hHeld.2.2.2.2.2.2.2.2.2.1, heap_on HB6.out hHeld.2.2.2.2.2.2.2.2.2.2⟩) (fun hNew => ?_)
              clear hK K hHeld; (have hHeld := hNew); clear hNew; (try simp only [Act.put, List.setIfInBounds_toArray, List.set_cons_zero, List.set_cons_succ])
              (refine takeH (i := 45) (v := ?_) rfl (by kernel_rfl) (by kernel_rfl) (by kernel_rfl) (fun _ _ _ h => h) (Or.inl ⟨by rfl, ?_⟩) (by assumption) ?_; rotate_left; (focus ((intro wS hSw); (try dsimp only at hSw); obtain ⟨s0, s1, s2, s3, s4, s5, s6, s7, s8, s9, s10⟩ := hSw; go_simp; (try with_reducible rfl); done)); (try simp only [Act.put, List.setIfInBounds_toArray, List.set_cons_zero, List.set_cons_succ]))
              (refine takeH (i := 46) (v := ?_) rfl (by kernel_rfl) (by kernel_rfl) (by kernel_rfl) (fun _ _ _ h => h) (Or.inl ⟨by rfl, ?_⟩) (by assumption) ?_; rotate_left; (focus ((intro wS hSw); (try dsimp only at hSw); obtain ⟨s0, s1, s2, s3, s4, s5, s6, s7, s8, s9, s10⟩ := hSw; go_simp; (try with_reducible rfl); done)); (try simp only [Act.put, List.setIfInBounds_toArray, List.set_cons_zero, List.set_cons_succ]))
              (refine takeH (i := 47) (v := ?_) rfl (by kernel_rfl) (by kernel_rfl) (by kernel_rfl) (fun _ _ _ h => h) (Or.inl ⟨by rfl, ?_⟩) (by assumption) ?_; rotate_left; (focus ((intro wS hSw); (try dsimp only at hSw); obtain ⟨s0, s1, s2, s3, s4, s5, s6, s7, s8, s9, s10⟩ := hSw; go_simp; (try with_reducible rfl); done)); (try simp only [Act.put, List.setIfInBounds_toArray, List.set_cons_zero, List.set_cons_succ]))
              (refine takeH (i := 48) (v := ?_) rfl (by kernel_rfl) (by kernel_rfl) (by kernel_rfl) (fun _ _ _ h => h) (Or.inl ⟨by rfl, ?_⟩) (by assumption) ?_; rotate_left; (focus ((intro wS hSw); (try dsimp only at hSw); obtain ⟨s0, s1, s2, s3, s4, s5, s6, s7, s8, s9, s10⟩ := hSw; go_simp; (try with_reducible rfl); done)); (try simp only [Act.put, List.setIfInBounds_toArray, List.set_cons_zero, List.set_cons_succ]))
              (refine takeH (i := 50) (v := ?_) rfl (by kernel_rfl) (by kernel_rfl) (by kernel_rfl) (fun _ _ _ h => h) (Or.inl ⟨by rfl, ?_⟩) (by assumption) ?_; rotate_left; (focus ((intro wS hSw); (try dsimp only at hSw); obtain ⟨s0, s1, s2, s3, s4, s5, s6, s7, s8, s9, s10⟩ := hSw; go_simp; (try with_reducible rfl); done)); (try simp only [Act.put, List.setIfInBounds_toArray, List.set_cons_zero, List.set_cons_succ]))
              refine aloneH (i := 49) rfl (by kernel_rfl) (fun K hK => ?_)
              rw [if_pos (by rfl)]
              go_simp; ((refine (HKd.out _ (HCd.out.on (below_then (below_then (below_then (below_then (below_then HB1.out HB2.out) HB3.out) HB4.out) HB5.out) HB6.out))).mono ?_); (rintro e w17 ⟨rfl, rfl⟩); (try go_simp))
              have HB7 : Hid (Below w16.heap.size w16 w16) := Lib.hid (Below.refl _ _)
              refine hK.out _ _ (hHeld) (fun hNew => ?_)
              clear hK K hHeld; (have hHeld := hNew); clear hNew; (try simp only [Act.put, List.setIfInBounds_toArray, List.set_cons_zero, List.set_cons_succ])
              (refine takeH (i := 51) (v := ?_) rfl (by kernel_rfl) (by kernel_rfl) (by kernel_rfl) (fun _ _ _ h => h) (Or.inl ⟨by rfl, ?_⟩) (by assumption) ?_; rotate_left; (focus ((intro wS hSw); (try dsimp only at hSw); obtain ⟨s0, s1, s2, s3, s4, s5, s6, s7, s8, s9, s10⟩ := hSw; go_simp; (try with_reducible rfl); done)); (try simp only [Act.put, List.setIfInBounds_toArray, List.set_cons_zero, List.set_cons_succ]))
              (refine takeH (i := 52) (v := ?_) rfl (by kernel_rfl) (by kernel_rfl) (by kernel_rfl) (fun _ _ _ h => h) (Or.inl ⟨by rfl, ?_⟩) (by assumption) ?_; rotate_left; (focus ((intro wS hSw); (try dsimp only at hSw); obtain ⟨s0, s1, s2, s3, s4, s5, s6, s7, s8, s9, s10⟩ := hSw; go_simp; (try with_reducible rfl); done)); (try simp only [Act.put, List.setIfInBounds_toArray, List.set_cons_zero, List.set_cons_succ]))
              (refine takeH (i := 53) (v := ?_) rfl (by kernel_rfl) (by kernel_rfl) (by kernel_rfl) (fun _ _ _ h => h) (Or.inl ⟨by rfl, ?_⟩) (by assumption) ?_; rotate_left; (focus ((intro wS hSw); (try dsimp only at hSw); obtain ⟨s0, s1, s2, s3, s4, s5, s6, s7, s8, s9, s10⟩ := hSw; go_simp; (try with_reducible rfl); done)); (try simp only [Act.put, List.setIfInBounds_toArray, List.set_cons_zero, List.set_cons_succ]))
              (refine takeH (i := 54) (v := ?_) rfl (by kernel_rfl) (by kernel_rfl) (by kernel_rfl) (fun _ _ _ h => h) (Or.inl ⟨by rfl, ?_⟩) (by assumption) ?_; rotate_left; (focus ((intro wS hSw); (try dsimp only at hSw); obtain ⟨s0, s1, s2, s3, s4, s5, s6, s7, s8, s9, s10⟩ := hSw; go_simp; (try with_reducible rfl); done)); (try simp only [Act.put, List.setIfInBounds_toArray, List.set_cons_zero, List.set_cons_succ]))
              (refine takeH (i := 56) (v := (.agg #[.int .i64 k, .int .i64 f1, .int .i64 f2, .int .i64 da, .int .i64 db])) rfl (by kernel_rfl) (by kernel_rfl) (by kernel_rfl) (fun _ _ _ h => h) (yieldsIf_load_rowE (by rfl) 31 (.tmp 12) rfl G rfl 31 #[.int .i64 k, .int .i64 f1, .int .i64 f2, .int .i64 da, .int .i64 db] (0, 0) _ (fun W h => h.2.2.2.2.2.2.1) Try.underlying31 rfl (by kernel_rfl)) (by assumption) ?_; (try simp only [Act.put, List.setIfInBounds_toArray, List.set_cons_zero, List.set_cons_succ]))
              refine aloneH (i := 55) rfl (by kernel_rfl) (fun K hK => ?_)
              rw [if_pos (by rfl)]
              go_simp; ((refine (HFl.out _ (HCd.out.on (below_then (below_then (below_then (below_then (below_then (below_then HB1.out HB2.out) HB3.out) HB4.out) HB5.out) HB6.out) HB7.out))).mono ?_); (rintro e w18 ⟨A1, cp1, rfl, hrow, hb⟩); have HW1 := Lib.hid hrow; have HB8 := Lib.hid hb; clear hb hrow; (try go_simp))
              refine hK.out _ _ (⟨cell_on HB8.out hHeld.1, cell_on HB8.out hHeld.2.1, cell_on HB8.out hHeld.2.2.1, cell_on HB8.out hHeld.2.2.2.1, cell_on HB8.out hHeld.2.2.2.2.1, cell_on HB8.out hHeld.2.2.2.2.2.1, heap_on HB8.out hHeld.2.2.2.2.2.2.1, heap_on HB8.out hHeld.2.2.2.2.2.2.2.1, heap_on HB8.out hHeld.2.2.2.2.2.2.2.2.1, heap_on HB8.out hHeld.2.2.2.2.2.2.2.2.2.1, heap_on HB8.out hHeld.2.2.2.2.2.2.2.2.2.2⟩) (fun hNew => ?_)
              clear hK K hHeld; (have hHeld := hNew); clear hNew; (try simp only [Act.put, List.setIfInBounds_toArray, List.set_cons_zero, List.set_cons_succ])
              refine aloneH (i := 57) rfl (by kernel_rfl) (fun K hK => ?_)
              rw [if_pos (by rfl)]
              go_simp; ((refine (HAl.out _).mono ?_); (rintro e w19 ⟨A2, cp2, rfl, hrow, hb⟩); have HW2 := Lib.hid hrow; have HW1b := Lib.hid (HW1.out.on hb); have HB9 := Lib.hid hb; clear hb hrow; (try go_simp))
              refine hK.out _ _ (⟨cell_on HB9.out hHeld.1, cell_on HB9.out hHeld.2.1, cell_on HB9.out hHeld.2.2.1, cell_on HB9.out hHeld.2.2.2.1, cell_on HB9.out hHeld.2.2.2.2.1, cell_on HB9.out hHeld.2.2.2.2.2.1, heap_on HB9.out hHeld.2.2.2.2.2.2.1, heap_on HB9.out hHeld.2.2.2.2.2.2.2.1, heap_on HB9.out hHeld.2.2.2.2.2.2.2.2.1, heap_on HB9.out hHeld.2.2.2.2.2.2.2.2.2.1, heap_on HB9.out hHeld.2.2.2.2.2.2.2.2.2.2⟩) (fun hNew => ?_)
              clear hK K hHeld; (have hHeld := hNew); clear hNew; (try simp only [Act.put, List.setIfInBounds_toArray, List.set_cons_zero, List.set_cons_succ])
              refine aloneH (i := 58) rfl (by kernel_rfl) (fun K hK => ?_)
              rw [if_pos (by rfl)]
              go_simp; ((refine (same_yes _ A1 A2 cp1 cp2 LL HW1b.out HW2.out HLl.out).mono ?_); (rintro e w110 ⟨rfl, hb⟩); have HB10 := Lib.hid hb; clear hb; (try go_simp))
              refine hK.out _ _ (⟨cell_on HB10.out hHeld.1, cell_on HB10.out hHeld.2.1, cell_on HB10.out hHeld.2.2.1, cell_on HB10.out hHeld.2.2.2.1, cell_on HB10.out hHeld.2.2.2.2.1, cell_on HB10.out hHeld.2.2.2.2.2.1, heap_on HB10.out hHeld.2.2.2.2.2.2.1, heap_on HB10.out hHeld.2.2.2.2.2.2.2.1, heap_on HB10.out hHeld.2.2.2.2.2.2.2.2.1, heap_on HB10.out hHeld.2.2.2.2.2.2.2.2.2.1, heap_on HB10.out hHeld.2.2.2.2.2.2.2.2.2.2⟩) (fun hNew => ?_)
              clear hK K hHeld; (have hHeld := hNew); clear hNew; (try simp only [Act.put, List.setIfInBounds_toArray, List.set_cons_zero, List.set_cons_succ])
              (refine takeH (i := 59) (v := ?_) rfl (by kernel_rfl) (by kernel_rfl) (by kernel_rfl) (fun _ _ _ h => h) (Or.inl ⟨by rfl, ?_⟩) (by assumption) ?_; rotate_left; (focus ((intro wS hSw); (try dsimp only at hSw); obtain ⟨s0, s1, s2, s3, s4, s5, s6, s7, s8, s9, s10⟩ := hSw; go_simp; (try with_reducible rfl); done)); (try simp only [Act.put, List.setIfInBounds_toArray, List.set_cons_zero, List.set_cons_succ]))
              (refine takeH (i := 60) (v := ?_) rfl (by kernel_rfl) (by kernel_rfl) (by kernel_rfl) (fun _ _ _ h => h) (Or.inl ⟨by rfl, ?_⟩) (by assumption) ?_; rotate_left; (focus ((intro wS hSw); (try dsimp only at hSw); obtain ⟨s0, s1, s2, s3, s4, s5, s6, s7, s8, s9, s10⟩ := hSw; go_simp; (try with_reducible rfl); done)); (try simp only [Act.put, List.setIfInBounds_toArray, List.set_cons_zero, List.set_cons_succ]))
              refine wpAnyH_done (by kernel_rfl) ?_ _
              have b1 := (below_then (below_then (below_then (below_then (below_then (below_then (below_then (below_then (below_then HB1.out HB2.out) HB3.out) HB4.out) HB5.out) HB6.out) HB7.out) HB8.out) HB9.out) HB10.out)
              have HIz : Hid (PlI w G k F a0 ak ay ai P (j + 1) (c.cl nk ny ni) w110) := Lib.hid ⟨HCd.out.on b1, HOk1.out, HKFz.out.1, HKFz.out.2.1, HKFz.out.2.2, by rw [HRow1.out]; exact heap_on b1 HGd.out, heap_on b1 HAd.out, below_any HBd.out (Nat.le_refl _) b1, HPgz.out, HPaz.out, HGa.out⟩
              clear b1 hHeld HBd HCd HGd HAd HXd
              go_wp2
              go_roundw
              case rel => exact ⟨j + 1, P, _, HJ.out.2, by go_num, rfl, HIz⟩
              case measure => rw [hw]; exact roundsLeft_next _ _ HJ.out.2
          · by_cases h3 : s0 = 3
            · subst h3
              as_aux_lemma =>
                obtain ⟨nk, ny, ni, hn1⟩ : ∃ nk ny ni : Int, ∀ W, Calls Try.prog 11 #[.agg #[.int .i64 k, .int .i64 f1, .int .i64 f2], .int .i64 cb] W fun e w' => ∃ er, e = .returned (.tuple #[.agg #[.int .i64 nk, .int .i64 ny, .int .i64 ni], .int .i64 er]) ∧ Below W.heap.size W w' :=
                  ⟨_, _, _, fun W => by
                    have := ref_next_at c HOk.out c.B HOk.out.fb W
                    rw [← HCab.out.2, HKF.out.1, HKF.out.2.1, ← HF.out.1, ← HF.out.2] at this
                    exact this⟩
                have HFn := Lib.hid hn1
                clear hn1
                obtain ⟨g0, g1, g2, g3, g4⟩ := cells5_row HG0.out
                go_wp2_with (go_at_call 11; refine (HFn.out _).mono ?_; rintro e w2 ⟨ner, rfl, hb⟩; have HC2 := Lib.hid (HC0.out.on hb); have HG2 := Lib.hid (heap_on hb HG0.out); have HX2 := Lib.hid (heap_on hb HX0.out); have HA2 := Lib.hid (heap_on hb HA0.out); have HB2 := Lib.hid (below_any HB0.out (Nat.le_refl _) hb); clear hb; refine Stop.out ?_)
                unfold Stop
                clear y0 y1 y2 y3 g0 g1 g2 g3 g4
                obtain ⟨z1, z2, z3⟩ := frozen4_row HX2.out
                obtain ⟨x0, x1, x2, x3⟩ := cells4_row HX2.out
                have hcg := chg_put1 w2 wr.heap.size (.int .i64 nk) (.int .i64 ny) (.int .i64 ni)
                have HX3 := Lib.hid (row_put1 (.int .i64 nk) (.int .i64 ny) (.int .i64 ni) HX2.out)
                have HC3 : Hid (CkAt _ P c) := Lib.hid ((hcg.block P (heapLt HC2.out) HNe.out.1.symm).trans HC2.out)
                have HG3 := Lib.hid ((hcg.block G (heapLt HG2.out) HNe.out.2.1.symm).trans HG2.out)
                have HA3 := Lib.hid ((hcg.block _ (heapLt HA2.out) HNe.out.2.2.symm).trans HA2.out)
                have HB3 := Lib.hid (HB2.out.trans (hcg.below (base := w.heap.size) HB2.out.size (Nat.le_of_lt (Nat.lt_of_lt_of_le HGa.out (Nat.le_of_lt hlg)))))
                clear hcg HX2 HC2 HA2 HB2 HG2
                obtain ⟨er, her⟩ : ∃ er, er = c.fiE nk ny ni := ⟨_, rfl⟩
                have hk1 := Ck.fi_ok HOk.out nk ny ni
                obtain ⟨da, hda⟩ : ∃ da, da = (c.fi nk ny ni).A - (c.fi nk ny ni).F := ⟨_, rfl⟩
                obtain ⟨db, hdb⟩ : ∃ db, db = (c.fi nk ny ni).B - (c.fi nk ny ni).F := ⟨_, rfl⟩
                have HRz : Hid (cRow (c.fi nk ny ni) = #[.int .i64 k, .int .i64 f1, .int .i64 f2, .int .i64 da, .int .i64 db]) := Lib.hid (by unfold cRow; rw [hda, hdb, hk1.2.1, hk1.2.2.1, HKF.out.1, HKF.out.2.1, ← HF.out.1, ← HF.out.2])
                have HOp : Hid (∀ W, CkAt W P c → Calls Try.prog 14 #[.pointer (some ⟨P, 0, none⟩), .agg #[.int .i64 nk, .int .i64 ny, .int .i64 ni]] W (StepP W P (c.fi nk ny ni) er)) := Lib.hid (fun W h => by rw [her]; exact code_file W P c nk ny ni h HOk.out)
                have HOd : Hid (∀ W, Calls Try.prog 15 #[.agg #[.int .i64 k, .int .i64 f1, .int .i64 f2, .int .i64 ca, .int .i64 cb], .agg #[.int .i64 nk, .int .i64 ny, .int .i64 ni]] W fun e w' => e = .returned (.tuple #[.agg #[.int .i64 k, .int .i64 f1, .int .i64 f2, .int .i64 da, .int .i64 db], .int .i64 er]) ∧ Below W.heap.size W w') := Lib.hid (fun W => by have := ref_file W c HOk.out nk ny ni; rw [HRow.out, HRz.out, ← her] at this; exact this)
                have HKFz : Hid ((c.fi nk ny ni).k = k ∧ (c.fi nk ny ni).F = F ∧ (c.fi nk ny ni).B - (c.fi nk ny ni).F ≤ ((j + 1 : Nat) : Int)) := Lib.hid ⟨hk1.2.1.trans HKF.out.1, hk1.2.2.1.trans HKF.out.2.1, by have h7 := hk1.2.2.2; have h8 := HKF.out.2.2; rw [hk1.2.2.1]; omega⟩
                have HOkz := Lib.hid hk1.1
                have HPgz := HPg
                have HPaz := HPa
                clear her hk1 hda hdb
                go_wp2_with (go_at_call 14; refine (HOp.out _ HC3.out).mono ?_; rintro e w5 hs; have HX5 := Lib.hid (hs.on HX3.out HNe.out.1); have HA5 := Lib.hid (hs.on HA3.out (Nat.ne_of_lt HPa.out)); have HG5 := Lib.hid (hs.on HG3.out HPg.out.symm); have HC5 := Lib.hid hs.2.1; have HB5 := Lib.hid (HB3.out.trans (hs.2.2.below (base := w.heap.size) HB3.out.size (Nat.le_of_lt HPa.out))); obtain rfl := hs.1; clear hs; refine Stop.out ?_)
                unfold Stop
                clear x0 x1 x2 x3 z1 z2 z3
                obtain ⟨x0, x1, x2, x3⟩ := cells4_row HX5.out
                obtain ⟨g0, g1, g2, g3, g4⟩ := cells5_row HG5.out
                go_wp2_with (go_at_call 15; refine (HOd.out _).mono ?_; rintro e w6 ⟨rfl, hb⟩; have HX6 := Lib.hid (heap_on hb HX5.out); have HA6 := Lib.hid (heap_on hb HA5.out); have HG6 := Lib.hid (heap_on hb HG5.out); have HC6 := Lib.hid (HC5.out.on hb); have HB6 := Lib.hid (below_any HB5.out (Nat.le_refl _) hb); clear hb; refine Stop.out ?_)
                unfold Stop
                clear x0 x1 x2 x3 g0 g1 g2 g3 g4
                obtain ⟨g0, g1, g2, g3, g4⟩ := cells5_row HG6.out
                obtain ⟨e0, e1, e2, e3, e4⟩ := frozen5_row HG6.out
                have HXz := Lib.hid (far_put5 (a := .int .i64 k) (b := .int .i64 f1) (c := .int .i64 f2) (d := .int .i64 da) (e := .int .i64 db) HX6.out HNe.out.2.1)
                have HAz := Lib.hid (far_put5 (a := .int .i64 k) (b := .int .i64 f1) (c := .int .i64 f2) (d := .int .i64 da) (e := .int .i64 db) HA6.out (Nat.ne_of_lt HGa.out))
                have HCz : Hid (CkAt _ P (c.fi nk ny ni)) := Lib.hid (far_put5 (a := .int .i64 k) (b := .int .i64 f1) (c := .int .i64 f2) (d := .int .i64 da) (e := .int .i64 db) HC6.out HPg.out)
                have HGz := Lib.hid (put5_row (.int .i64 k) (.int .i64 f1) (.int .i64 f2) (.int .i64 da) (.int .i64 db) HG6.out)
                have HBz := Lib.hid (below_put5 (a := .int .i64 k) (b := .int .i64 f1) (c := .int .i64 f2) (d := .int .i64 da) (e := .int .i64 db) HB6.out (Nat.le_of_lt HGa.out))
                have ok1 : (c.fi nk ny ni).Ok := HOkz.out
                have HRow1 : Hid (cRow (c.fi nk ny ni) = #[.int .i64 k, .int .i64 f1, .int .i64 f2, .int .i64 da, .int .i64 db]) := HRz
                obtain ⟨p1, p2, p3, o1, o2, o3, re, hrc, hrd⟩ := routes_both (c.fi nk ny ni) ok1 when_
                rw [HRow1.out] at hrd
                have HRc := Lib.hid (hrc P)
                have HRd := Lib.hid hrd
                obtain ⟨v1, hv1⟩ : ∃ v1, v1 = (c.fi nk ny ni).st ak ay ai := ⟨_, rfl⟩
                obtain ⟨v2, hv2⟩ : ∃ v2, v2 = (c.fi nk ny ni).st nk ny ni := ⟨_, rfl⟩
                have HS1 : Hid (∀ W, CkAt W P (c.fi nk ny ni) → Calls Try.prog 19 #[.pointer (some ⟨P, 0, none⟩), .agg #[.int .i64 ak, .int .i64 ay, .int .i64 ai]] W fun e w' => e = .returned (.int .i64 v1) ∧ Below W.heap.size W w') := Lib.hid (fun W h => by rw [hv1]; exact code_state W _ _ _ _ _ h ok1)
                have HS2 : Hid (∀ W, Calls Try.prog 20 #[.agg #[.int .i64 k, .int .i64 f1, .int .i64 f2, .int .i64 da, .int .i64 db], .agg #[.int .i64 ak, .int .i64 ay, .int .i64 ai]] W fun e w' => e = .returned (.int .i64 v1) ∧ Below W.heap.size W w') := Lib.hid (fun W => by have := ref_state W _ ok1 ak ay ai; rw [HRow1.out, ← hv1] at this; exact this)
                have HS3 : Hid (∀ W, CkAt W P (c.fi nk ny ni) → Calls Try.prog 19 #[.pointer (some ⟨P, 0, none⟩), .agg #[.int .i64 nk, .int .i64 ny, .int .i64 ni]] W fun e w' => e = .returned (.int .i64 v2) ∧ Below W.heap.size W w') := Lib.hid (fun W h => by rw [hv2]; exact code_state W _ _ _ _ _ h ok1)
                have HS4 : Hid (∀ W, Calls Try.prog 20 #[.agg #[.int .i64 k, .int .i64 f1, .int .i64 f2, .int .i64 da, .int .i64 db], .agg #[.int .i64 nk, .int .i64 ny, .int .i64 ni]] W fun e w' => e = .returned (.int .i64 v2) ∧ Below W.heap.size W w') := Lib.hid (fun W => by have := ref_state W _ ok1 nk ny ni; rw [HRow1.out, ← hv2] at this; exact this)
                obtain ⟨q1, q2, q3, hq1, hq2⟩ : ∃ q1 q2 q3 : Int, (∀ W, CkAt W P (c.fi nk ny ni) → Calls Try.prog 21 #[.pointer (some ⟨P, 0, none⟩)] W fun e w' => e = .returned (.agg #[.int .i64 q1, .int .i64 q2, .int .i64 q3]) ∧ Below W.heap.size W w') ∧ (∀ W, Calls Try.prog 10 #[.agg #[.int .i64 k, .int .i64 f1, .int .i64 f2, .int .i64 da, .int .i64 db]] W fun e w' => e = .returned (.agg #[.int .i64 q1, .int .i64 q2, .int .i64 q3]) ∧ Below W.heap.size W w') :=
                  ⟨_, _, _, fun W h => code_first_ W _ _ h ok1, fun W => by have := ref_first27 W _ ok1; rw [HRow1.out] at this; exact this⟩
                have HF1 := Lib.hid hq1
                have HF2 := Lib.hid hq2
                have HKd : Hid (∀ W, CkAt W P (c.fi nk ny ni) → Calls Try.prog 22 #[.pointer (some ⟨P, 0, none⟩)] W fun e w' => e = .returned (.int .i64 k) ∧ W = w') := Lib.hid (fun W h => by have := code_kind_ W _ _ h ok1; rw [show (c.fi nk ny ni).k = k from HKFz.out.1] at this; exact this)
                have hfew : (c.fi nk ny ni).B - (c.fi nk ny ni).F ≤ ((j + 1 : Nat) : Int) := HKFz.out.2.2
                obtain ⟨mm, hmm⟩ : ∃ mm : Nat, (c.fi nk ny ni).F + mm = (c.fi nk ny ni).B := ⟨((c.fi nk ny ni).B - (c.fi nk ny ni).F).toNat, by have := ok1.fb; omega⟩
                obtain ⟨LL, hLL⟩ : ∃ LL, LL = persL (c.fi nk ny ni).k (c.fi nk ny ni).F mm := ⟨_, rfl⟩
                have hm9 : mm ≤ 900 := by have := HL.out; have := HJ.out.2; omega
                have HLl : Hid (LL.length ≤ 1000) := Lib.hid (by rw [hLL, persL_len]; omega)
                have HFl : Hid (∀ W, CkAt W P (c.fi nk ny ni) → Calls Try.prog 24 #[.pointer (some ⟨P, 0, none⟩)] W fun e w' => ∃ A cp, e = .returned (.slice A LL.length cp) ∧ RowPerV w' A LL ∧ Below W.heap.size W w') := Lib.hid (fun W h => by rw [hLL]; exact (code_filed W _ _ h ok1 mm hmm hm9).mono fun e w' q => rows_of q)
                have HAl : Hid (∀ W, Calls Try.prog 25 #[.agg #[.int .i64 k, .int .i64 f1, .int .i64 f2, .int .i64 da, .int .i64 db]] W fun e w' => ∃ A cp, e = .returned (.slice A LL.length cp) ∧ RowPerV w' A LL ∧ Below W.heap.size W w') := Lib.hid (fun W => by rw [hLL]; have := ref_all W _ ok1 mm hmm hm9; rw [HRow1.out] at this; exact this.mono fun e w' q => rows_of q)
                have HOk1 := Lib.hid ok1
                clear ok1 hrc hrd hv1 hv2 hq1 hq2 hfew hmm hLL hm9
                go_wp2_with (go_at_call 17; refine (HRc.out _ HCz.out).mono ?_; rintro e w8 ⟨rfl, hb⟩; have HC8 := Lib.hid (HCz.out.on hb); have HG8 := Lib.hid (heap_on hb HGz.out); have HA8 := Lib.hid (heap_on hb HAz.out); have HX8 := Lib.hid (heap_on hb HXz.out); have HB8 := Lib.hid (below_any HBz.out (Nat.le_refl _) hb); clear hb; refine Stop.out ?_)
                unfold Stop
                clear g0 g1 g2 g3 g4 e0 e1 e2 e3 e4
                have b8 := below_then (below_alloc w8 (.cells #[.int .i64 p1, .int .i64 p2, .int .i64 p3] 24)) (below_alloc _ (.cells #[.int .i64 o1, .int .i64 o2, .int .i64 o3] 24))
                have HC8b := Lib.hid (HC8.out.on b8)
                have HG8b := Lib.hid (heap_on b8 HG8.out)
                have HA8b := Lib.hid (heap_on b8 HA8.out)
                have HX8b := Lib.hid (heap_on b8 HX8.out)
                have HB8b := Lib.hid (below_any HB8.out (Nat.le_refl _) b8)
                have HP8b := Lib.hid (heap_on (below_alloc _ (.cells #[.int .i64 o1, .int .i64 o2, .int .i64 o3] 24)) (heap_alloc_new w8 (.cells #[.int .i64 p1, .int .i64 p2, .int .i64 p3] 24)))
                have HO8b := Lib.hid (heap_alloc_new2 w8 (.cells #[.int .i64 p1, .int .i64 p2, .int .i64 p3] 24) (.cells #[.int .i64 o1, .int .i64 o2, .int .i64 o3] 24))
                have hz8 : G < w8.heap.size := heapLt HG8.out
                clear b8
                obtain ⟨g0, g1, g2, g3, g4⟩ := cells5_row HG8.out
                go_wp2_with (go_at_call 18; refine (HRd.out _).mono ?_; rintro e w9 ⟨rfl, hb⟩; have HC9 := Lib.hid (HC8b.out.on hb); have HG9 := Lib.hid (heap_on hb HG8b.out); have HA9 := Lib.hid (heap_on hb HA8b.out); have HX9 := Lib.hid (heap_on hb HX8b.out); have HB9 := Lib.hid (below_any HB8b.out (Nat.le_refl _) hb); have HP9 := Lib.hid (heap_on hb HP8b.out); have HO9 := Lib.hid (heap_on hb HO8b.out); clear hb; refine Stop.out ?_)
                unfold Stop
                clear g0 g1 g2 g3 g4 hz8
                have b9 := below_then (below_alloc w9 (.cells #[.int .i64 p1, .int .i64 p2, .int .i64 p3] 24)) (below_alloc _ (.cells #[.int .i64 o1, .int .i64 o2, .int .i64 o3] 24))
                have HCd := Lib.hid (HC9.out.on b9.drew)
                have HGd := Lib.hid (heap_on b9.drew HG9.out)
                have HAd := Lib.hid (heap_on b9.drew HA9.out)
                have HXd := Lib.hid (heap_on b9.drew HX9.out)
                have HBd := Lib.hid (below_any HB9.out (Nat.le_refl _) b9).drew
                have hS := And.intro (heap_on b9.drew HP9.out) (And.intro (heap_on b9.drew HO9.out) (And.intro (heap_on (below_alloc _ (.cells #[.int .i64 o1, .int .i64 o2, .int .i64 o3] 24)) (heap_alloc_new w9 (.cells #[.int .i64 p1, .int .i64 p2, .int .i64 p3] 24))) (heap_alloc_new2 w9 (.cells #[.int .i64 p1, .int .i64 p2, .int .i64 p3] 24) (.cells #[.int .i64 o1, .int .i64 o2, .int .i64 o3] 24))))
                have hA := cells4_row HAd.out
                have hX := cells4_row HXd.out
                have HS := Lib.hid (And.intro hA.2.1 (And.intro hA.2.2.1 (And.intro hA.2.2.2 (And.intro hX.2.1 (And.intro hX.2.2.1 (And.intro hX.2.2.2 (And.intro HGd.out hS)))))))
                clear b9 hS hA hX
                go_wp2_with fail
                refine wp_region_held_drew (S := fun W => W.cell? ⟨w.heap.size, 1, none⟩ = some (.int .i64 ak) ∧ W.cell? ⟨w.heap.size, 2, none⟩ = some (.int .i64 ay) ∧ W.cell? ⟨w.heap.size, 3, none⟩ = some (.int .i64 ai) ∧ W.cell? ⟨wr.heap.size, 1, none⟩ = some (.int .i64 nk) ∧ W.cell? ⟨wr.heap.size, 2, none⟩ = some (.int .i64 ny) ∧ W.cell? ⟨wr.heap.size, 3, none⟩ = some (.int .i64 ni) ∧ W.heap[G]? = some (.cells #[.int .i64 k, .int .i64 f1, .int .i64 f2, .int .i64 da, .int .i64 db] 31 (0, 0)) ∧ W.heap[w8.heap.size]? = some (.cells #[.int .i64 p1, .int .i64 p2, .int .i64 p3] 24 (0, 0)) ∧ W.heap[(w8.heap.size + 1)]? = some (.cells #[.int .i64 o1, .int .i64 o2, .int .i64 o3] 24 (0, 0)) ∧ W.heap[w9.heap.size]? = some (.cells #[.int .i64 p1, .int .i64 p2, .int .i64 p3] 24 (0, 0)) ∧ W.heap[(w9.heap.size + 1)]? = some (.cells #[.int .i64 o1, .int .i64 o2, .int .i64 o3] 24 (0, 0))) (by kernel_rfl) HS.out ?_
                intro hHeld
                clear HS
                generalize ((w9.alloc (.cells #[.int .i64 p1, .int .i64 p2, .int .i64 p3] 24)).alloc (.cells #[.int .i64 o1, .int .i64 o2, .int .i64 o3] 24)).drew = wd at HBd HCd HGd HAd HXd hHeld ⊢
                (refine takeH (i := 0) (v := ?_) rfl (by kernel_rfl) (by kernel_rfl) (by kernel_rfl) (fun _ _ _ h => h) (Or.inl ⟨by rfl, ?_⟩) (by assumption) ?_; rotate_left; (focus ((intro wS hSw); (try dsimp only at hSw); obtain ⟨s0, s1, s2, s3, s4, s5, s6, s7, s8, s9, s10⟩ := hSw; go_simp; (try with_reducible rfl); done)); (try simp only [Act.put, List.setIfInBounds_toArray, List.set_cons_zero, List.set_cons_succ]))
                (refine takeH (i := 1) (v := ?_) rfl (by kernel_rfl) (by kernel_rfl) (by kernel_rfl) (fun _ _ _ h => h) (Or.inl ⟨by rfl, ?_⟩) (by assumption) ?_; rotate_left; (focus ((intro wS hSw); (try dsimp only at hSw); obtain ⟨s0, s1, s2, s3, s4, s5, s6, s7, s8, s9, s10⟩ := hSw; go_simp; (try with_reducible rfl); done)); (try simp only [Act.put, List.setIfInBounds_toArray, List.set_cons_zero, List.set_cons_succ]))
                (refine takeH (i := 2) (v := ?_) rfl (by kernel_rfl) (by kernel_rfl) (by kernel_rfl) (fun _ _ _ h => h) (Or.inl ⟨by rfl, ?_⟩) (by assumption) ?_; rotate_left; (focus ((intro wS hSw); (try dsimp only at hSw); obtain ⟨s0, s1, s2, s3, s4, s5, s6, s7, s8, s9, s10⟩ := hSw; go_simp; (try with_reducible rfl); done)); (try simp only [Act.put, List.setIfInBounds_toArray, List.set_cons_zero, List.set_cons_succ]))
                (refine takeH (i := 3) (v := ?_) rfl (by kernel_rfl) (by kernel_rfl) (by kernel_rfl) (fun _ _ _ h => h) (Or.inl ⟨by rfl, ?_⟩) (by assumption) ?_; rotate_left; (focus ((intro wS hSw); (try dsimp only at hSw); obtain ⟨s0, s1, s2, s3, s4, s5, s6, s7, s8, s9, s10⟩ := hSw; go_simp; (try with_reducible rfl); done)); (try simp only [Act.put, List.setIfInBounds_toArray, List.set_cons_zero, List.set_cons_succ]))
                (refine takeH (i := 4) (v := ?_) rfl (by kernel_rfl) (by kernel_rfl) (by kernel_rfl) (fun _ _ _ h => h) (Or.inl ⟨by rfl, ?_⟩) (by assumption) ?_; rotate_left; (focus ((intro wS hSw); (try dsimp only at hSw); obtain ⟨s0, s1, s2, s3, s4, s5, s6, s7, s8, s9, s10⟩ := hSw; go_simp; (try with_reducible rfl); done)); (try simp only [Act.put, List.setIfInBounds_toArray, List.set_cons_zero, List.set_cons_succ]))
                (refine takeH (i := 5) (v := ?_) rfl (by kernel_rfl) (by kernel_rfl) (by kernel_rfl) (fun _ _ _ h => h) (Or.inl ⟨by rfl, ?_⟩) (by assumption) ?_; rotate_left; (focus ((intro wS hSw); (try dsimp only at hSw); obtain ⟨s0, s1, s2, s3, s4, s5, s6, s7, s8, s9, s10⟩ := hSw; go_simp; (try with_reducible rfl); done)); (try simp only [Act.put, List.setIfInBounds_toArray, List.set_cons_zero, List.set_cons_succ]))
                (refine takeH (i := 6) (v := ?_) rfl (by kernel_rfl) (by kernel_rfl) (by kernel_rfl) (fun _ _ _ h => h) (Or.inl ⟨by rfl, ?_⟩) (by assumption) ?_; rotate_left; (focus ((intro wS hSw); (try dsimp only at hSw); obtain ⟨s0, s1, s2, s3, s4, s5, s6, s7, s8, s9, s10⟩ := hSw; go_simp; (try with_reducible rfl); done)); (try simp only [Act.put, List.setIfInBounds_toArray, List.set_cons_zero, List.set_cons_succ]))
                (refine takeH (i := 8) (v := (.agg #[.int .i64 k, .int .i64 f1, .int .i64 f2, .int .i64 da, .int .i64 db])) rfl (by kernel_rfl) (by kernel_rfl) (by kernel_rfl) (fun _ _ _ h => h) (yieldsIf_load_rowE (by rfl) 31 (.tmp 12) rfl G rfl 31 #[.int .i64 k, .int .i64 f1, .int .i64 f2, .int .i64 da, .int .i64 db] (0, 0) _ (fun W h => h.2.2.2.2.2.2.1) Try.underlying31 rfl (by kernel_rfl)) (by assumption) ?_; (try simp only [Act.put, List.setIfInBounds_toArray, List.set_cons_zero, List.set_cons_succ]))
                (refine takeH (i := 9) (v := ?_) rfl (by kernel_rfl) (by kernel_rfl) (by kernel_rfl) (fun _ _ _ h => h) (Or.inl ⟨by rfl, ?_⟩) (by assumption) ?_; rotate_left; (focus ((intro wS hSw); (try dsimp only at hSw); obtain ⟨s0, s1, s2, s3, s4, s5, s6, s7, s8, s9, s10⟩ := hSw; go_simp; (try with_reducible rfl); done)); (try simp only [Act.put, List.setIfInBounds_toArray, List.set_cons_zero, List.set_cons_succ]))
                (refine takeH (i := 10) (v := ?_) rfl (by kernel_rfl) (by kernel_rfl) (by kernel_rfl) (fun _ _ _ h => h) (Or.inl ⟨by rfl, ?_⟩) (by assumption) ?_; rotate_left; (focus ((intro wS hSw); (try dsimp only at hSw); obtain ⟨s0, s1, s2, s3, s4, s5, s6, s7, s8, s9, s10⟩ := hSw; go_simp; (try with_reducible rfl); done)); (try simp only [Act.put, List.setIfInBounds_toArray, List.set_cons_zero, List.set_cons_succ]))
                refine aloneH (i := 7) rfl (by kernel_rfl) (fun K hK => ?_)
                rw [if_pos (by rfl)]
                go_simp; ((refine (HS1.out _ (HCd.out.on (Below.refl _ wd))).mono ?_); (rintro e w11 ⟨rfl, hb⟩); have HB1 := Lib.hid hb; clear hb; (try go_simp))
                refine hK.out _ _ (⟨cell_on HB1.out hHeld.1, cell_on HB1.out hHeld.2.1, cell_on HB1.out hHeld.2.2.1, cell_on HB1.out hHeld.2.2.2.1, cell_on HB1.out hHeld.2.2.2.2.1, cell_on HB1.out hHeld.2.2.2.2.2.1, heap_on HB1.out hHeld.2.2.2.2.2.2.1, heap_on HB1.out hHeld.2.2.2.2.2.2.2.1, heap_on HB1.out hHeld.2.2.2.2.2.2.2.2.1, heap_on HB1.out hHeld.2.2.2.2.2.2.2.2.2.1, heap_on HB1.out hHeld.2.2.2.2.2.2.2.2.2.2⟩) (fun hNew => ?_)
                clear hK K hHeld; (have hHeld := hNew); clear hNew; (try simp only [Act.put, List.setIfInBounds_toArray, List.set_cons_zero, List.set_cons_succ])
                refine aloneH (i := 11) rfl (by kernel_rfl) (fun K hK => ?_)
                rw [if_pos (by rfl)]
                go_simp; ((refine (HS2.out _).mono ?_); (rintro e w12 ⟨rfl, hb⟩); have HB2 := Lib.hid hb; clear hb; (try go_simp))
                refine hK.out _ _ (⟨cell_on HB2.out hHeld.1, cell_on HB2.out hHeld.2.1, cell_on HB2.out hHeld.2.2.1, cell_on HB2.out hHeld.2.2.2.1, cell_on HB2.out hHeld.2.2.2.2.1, cell_on HB2.out hHeld.2.2.2.2.2.1, heap_on HB2.out hHeld.2.2.2.2.2.2.1, heap_on HB2.out hHeld.2.2.2.2.2.2.2.1, heap_on HB2.out hHeld.2.2.2.2.2.2.2.2.1, heap_on HB2.out hHeld.2.2.2.2.2.2.2.2.2.1, heap_on HB2.out hHeld.2.2.2.2.2.2.2.2.2.2⟩) (fun hNew => ?_)
                clear hK K hHeld; (have hHeld := hNew); clear hNew; (try simp only [Act.put, List.setIfInBounds_toArray, List.set_cons_zero, List.set_cons_succ])
                (refine takeH (i := 12) (v := ?_) rfl (by kernel_rfl) (by kernel_rfl) (by kernel_rfl) (fun _ _ _ h => h) (Or.inl ⟨by rfl, ?_⟩) (by assumption) ?_; rotate_left; (focus ((intro wS hSw); (try dsimp only at hSw); obtain ⟨s0, s1, s2, s3, s4, s5, s6, s7, s8, s9, s10⟩ := hSw; go_simp; (try with_reducible rfl); done)); (try simp only [Act.put, List.setIfInBounds_toArray, List.set_cons_zero, List.set_cons_succ]))
                (refine takeH (i := 13) (v := ?_) rfl (by kernel_rfl) (by kernel_rfl) (by kernel_rfl) (fun _ _ _ h => h) (Or.inl ⟨by rfl, ?_⟩) (by assumption) ?_; rotate_left; (focus ((intro wS hSw); (try dsimp only at hSw); obtain ⟨s0, s1, s2, s3, s4, s5, s6, s7, s8, s9, s10⟩ := hSw; go_simp; (try with_reducible rfl); done)); (try simp only [Act.put, List.setIfInBounds_toArray, List.set_cons_zero, List.set_cons_succ]))
                (refine takeH (i := 14) (v := ?_) rfl (by kernel_rfl) (by kernel_rfl) (by kernel_rfl) (fun _ _ _ h => h) (Or.inl ⟨by rfl, ?_⟩) (by assumption) ?_; rotate_left; (focus ((intro wS hSw); (try dsimp only at hSw); obtain ⟨s0, s1, s2, s3, s4, s5, s6, s7, s8, s9, s10⟩ := hSw; go_simp; (try with_reducible rfl); done)); (try simp only [Act.put, List.setIfInBounds_toArray, List.set_cons_zero, List.set_cons_succ]))
                (refine takeH (i := 15) (v := ?_) rfl (by kernel_rfl) (by kernel_rfl) (by kernel_rfl) (fun _ _ _ h => h) (Or.inl ⟨by rfl, ?_⟩) (by assumption) ?_; rotate_left; (focus ((intro wS hSw); (try dsimp only at hSw); obtain ⟨s0, s1, s2, s3, s4, s5, s6, s7, s8, s9, s10⟩ := hSw; go_simp; (try with_reducible rfl); done)); (try simp only [Act.put, List.setIfInBounds_toArray, List.set_cons_zero, List.set_cons_succ]))
                (refine takeH (i := 16) (v := ?_) rfl (by kernel_rfl) (by kernel_rfl) (by kernel_rfl) (fun _ _ _ h => h) (Or.inl ⟨by rfl, ?_⟩) (by assumption) ?_; rotate_left; (focus ((intro wS hSw); (try dsimp only at hSw); obtain ⟨s0, s1, s2, s3, s4, s5, s6, s7, s8, s9, s10⟩ := hSw; go_simp; (try with_reducible rfl); done)); (try simp only [Act.put, List.setIfInBounds_toArray, List.set_cons_zero, List.set_cons_succ]))
                (refine takeH (i := 17) (v := ?_) rfl (by kernel_rfl) (by kernel_rfl) (by kernel_rfl) (fun _ _ _ h => h) (Or.inl ⟨by rfl, ?_⟩) (by assumption) ?_; rotate_left; (focus ((intro wS hSw); (try dsimp only at hSw); obtain ⟨s0, s1, s2, s3, s4, s5, s6, s7, s8, s9, s10⟩ := hSw; go_simp; (try with_reducible rfl); done)); (try simp only [Act.put, List.setIfInBounds_toArray, List.set_cons_zero, List.set_cons_succ]))
                (refine takeH (i := 19) (v := (.agg #[.int .i64 k, .int .i64 f1, .int .i64 f2, .int .i64 da, .int .i64 db])) rfl (by kernel_rfl) (by kernel_rfl) (by kernel_rfl) (fun _ _ _ h => h) (yieldsIf_load_rowE (by rfl) 31 (.tmp 12) rfl G rfl 31 #[.int .i64 k, .int .i64 f1, .int .i64 f2, .int .i64 da, .int .i64 db] (0, 0) _ (fun W h => h.2.2.2.2.2.2.1) Try.underlying31 rfl (by kernel_rfl)) (by assumption) ?_; (try simp only [Act.put, List.setIfInBounds_toArray, List.set_cons_zero, List.set_cons_succ]))
                (refine takeH (i := 20) (v := ?_) rfl (by kernel_rfl) (by kernel_rfl) (by kernel_rfl) (fun _ _ _ h => h) (Or.inl ⟨by rfl, ?_⟩) (by assumption) ?_; rotate_left; (focus ((intro wS hSw); (try dsimp only at hSw); obtain ⟨s0, s1, s2, s3, s4, s5, s6, s7, s8, s9, s10⟩ := hSw; go_simp; (try with_reducible rfl); done)); (try simp only [Act.put, List.setIfInBounds_toArray, List.set_cons_zero, List.set_cons_succ]))
                (refine takeH (i := 21) (v := ?_) rfl (by kernel_rfl) (by kernel_rfl) (by kernel_rfl) (fun _ _ _ h => h) (Or.inl ⟨by rfl, ?_⟩) (by assumption) ?_; rotate_left; (focus ((intro wS hSw); (try dsimp only at hSw); obtain ⟨s0, s1, s2, s3, s4, s5, s6, s7, s8, s9, s10⟩ := hSw; go_simp; (try with_reducible rfl); done)); (try simp only [Act.put, List.setIfInBounds_toArray, List.set_cons_zero, List.set_cons_succ]))
                refine aloneH (i := 18) rfl (by kernel_rfl) (fun K hK => ?_)
                rw [if_pos (by rfl)]
                go_simp; ((refine (HS3.out _ (HCd.out.on (below_then HB1.out HB2.out))).mono ?_); (rintro e w13 ⟨rfl, hb⟩); have HB3 := Lib.hid hb; clear hb; (try go_simp))
                refine hK.out _ _ (⟨cell_on HB3.out hHeld.1, cell_on HB3.out hHeld.2.1, cell_on HB3.out hHeld.2.2.1, cell_on HB3.out hHeld.2.2.2.1, cell_on HB3.out hHeld.2.2.2.2.1, cell_on HB3.out hHeld.2.2.2.2.2.1, heap_on HB3.out hHeld.2.2.2.2.2.2.1, heap_on HB3.out hHeld.2.2.2.2.2.2.2.1, heap_on HB3.out hHeld.2.2.2.2.2.2.2.2.1, heap_on HB3.out hHeld.2.2.2.2.2.2.2.2.2.1, heap_on HB3.out hHeld.2.2.2.2.2.2.2.2.2.2⟩) (fun hNew => ?_)
                clear hK K hHeld; (have hHeld := hNew); clear hNew; (try simp only [Act.put, List.setIfInBounds_toArray, List.set_cons_zero, List.set_cons_succ])
                refine aloneH (i := 22) rfl (by kernel_rfl) (fun K hK => ?_)
                rw [if_pos (by rfl)]
                go_simp; ((refine (HS4.out _).mono ?_); (rintro e w14 ⟨rfl, hb⟩); have HB4 := Lib.hid hb; clear hb; (try go_simp))
                refine hK.out _ _ (⟨cell_on HB4.out hHeld.1, cell_on HB4.out hHeld.2.1, cell_on HB4.out hHeld.2.2.1, cell_on HB4.out hHeld.2.2.2.1, cell_on HB4.out hHeld.2.2.2.2.1, cell_on HB4.out hHeld.2.2.2.2.2.1, heap_on HB4.out hHeld.2.2.2.2.2.2.1, heap_on HB4.out hHeld.2.2.2.2.2.2.2.1, heap_on HB4.out hHeld.2.2.2.2.2.2.2.2.1, heap_on HB4.out hHeld.2.2.2.2.2.2.2.2.2.1, heap_on HB4.out hHeld.2.2.2.2.2.2.2.2.2.2⟩) (fun hNew => ?_)
                clear hK K hHeld; (have hHeld := hNew); clear hNew; (try simp only [Act.put, List.setIfInBounds_toArray, List.set_cons_zero, List.set_cons_succ])
                (refine takeH (i := 23) (v := ?_) rfl (by kernel_rfl) (by kernel_rfl) (by kernel_rfl) (fun _ _ _ h => h) (Or.inl ⟨by rfl, ?_⟩) (by assumption) ?_; rotate_left; (focus ((intro wS hSw); (try dsimp only at hSw); obtain ⟨s0, s1, s2, s3, s4, s5, s6, s7, s8, s9, s10⟩ := hSw; go_simp; (try with_reducible rfl); done)); (try simp only [Act.put, List.setIfInBounds_toArray, List.set_cons_zero, List.set_cons_succ]))
                (refine takeH (i := 24) (v := ?_) rfl (by kernel_rfl) (by kernel_rfl) (by kernel_rfl) (fun _ _ _ h => h) (Or.inl ⟨by rfl, ?_⟩) (by assumption) ?_; rotate_left; (focus ((intro wS hSw); (try dsimp only at hSw); obtain ⟨s0, s1, s2, s3, s4, s5, s6, s7, s8, s9, s10⟩ := hSw; go_simp; (try with_reducible rfl); done)); (try simp only [Act.put, List.setIfInBounds_toArray, List.set_cons_zero, List.set_cons_succ]))
                (refine takeH (i := 25) (v := ?_) rfl (by kernel_rfl) (by kernel_rfl) (by kernel_rfl) (fun _ _ _ h => h) (Or.inl ⟨by rfl, ?_⟩) (by assumption) ?_; rotate_left; (focus ((intro wS hSw); (try dsimp only at hSw); obtain ⟨s0, s1, s2, s3, s4, s5, s6, s7, s8, s9, s10⟩ := hSw; go_simp; (try with_reducible rfl); done)); (try simp only [Act.put, List.setIfInBounds_toArray, List.set_cons_zero, List.set_cons_succ]))
                (refine takeH (i := 26) (v := (.agg #[.int .i64 p1, .int .i64 p2, .int .i64 p3])) rfl (by kernel_rfl) (by kernel_rfl) (by kernel_rfl) (fun _ _ _ h => h) (yieldsIf_load_rowE (by rfl) 24 (.tmp 19) rfl w8.heap.size rfl 24 #[.int .i64 p1, .int .i64 p2, .int .i64 p3] (0, 0) _ (fun W h => h.2.2.2.2.2.2.2.1) Try.underlying24 rfl (by kernel_rfl)) (by assumption) ?_; (try simp only [Act.put, List.setIfInBounds_toArray, List.set_cons_zero, List.set_cons_succ]))
                (refine takeH (i := 27) (v := (.agg #[.int .i64 p1, .int .i64 p2, .int .i64 p3])) rfl (by kernel_rfl) (by kernel_rfl) (by kernel_rfl) (fun _ _ _ h => h) (yieldsIf_load_rowE (by rfl) 24 (.tmp 22) rfl w9.heap.size rfl 24 #[.int .i64 p1, .int .i64 p2, .int .i64 p3] (0, 0) _ (fun W h => h.2.2.2.2.2.2.2.2.2.1) Try.underlying24 rfl (by kernel_rfl)) (by assumption) ?_; (try simp only [Act.put, List.setIfInBounds_toArray, List.set_cons_zero, List.set_cons_succ]))
                (refine takeH (i := 28) (v := ?_) rfl (by kernel_rfl) (by kernel_rfl) (by kernel_rfl) (fun _ _ _ h => h) (Or.inl ⟨by rfl, ?_⟩) (by assumption) ?_; rotate_left; (focus ((intro wS hSw); (try dsimp only at hSw); obtain ⟨s0, s1, s2, s3, s4, s5, s6, s7, s8, s9, s10⟩ := hSw; go_simp; (try with_reducible rfl); done)); (try simp only [Act.put, List.setIfInBounds_toArray, List.set_cons_zero, List.set_cons_succ]))
                (refine takeH (i := 29) (v := ?_) rfl (by kernel_rfl) (by kernel_rfl) (by kernel_rfl) (fun _ _ _ h => h) (Or.inl ⟨by rfl, ?_⟩) (by assumption) ?_; rotate_left; (focus ((intro wS hSw); (try dsimp only at hSw); obtain ⟨s0, s1, s2, s3, s4, s5, s6, s7, s8, s9, s10⟩ := hSw; go_simp; (try with_reducible rfl); done)); (try simp only [Act.put, List.setIfInBounds_toArray, List.set_cons_zero, List.set_cons_succ]))
                (refine takeH (i := 30) (v := ?_) rfl (by kernel_rfl) (by kernel_rfl) (by kernel_rfl) (fun _ _ _ h => h) (Or.inl ⟨by rfl, ?_⟩) (by assumption) ?_; rotate_left; (focus ((intro wS hSw); (try dsimp only at hSw); obtain ⟨s0, s1, s2, s3, s4, s5, s6, s7, s8, s9, s10⟩ := hSw; go_simp; (try with_reducible rfl); done)); (try simp only [Act.put, List.setIfInBounds_toArray, List.set_cons_zero, List.set_cons_succ]))
                (refine takeH (i := 31) (v := (.agg #[.int .i64 o1, .int .i64 o2, .int .i64 o3])) rfl (by kernel_rfl) (by kernel_rfl) (by kernel_rfl) (fun _ _ _ h => h) (yieldsIf_load_rowE (by rfl) 24 (.tmp 20) rfl (w8.heap.size + 1) rfl 24 #[.int .i64 o1, .int .i64 o2, .int .i64 o3] (0, 0) _ (fun W h => h.2.2.2.2.2.2.2.2.1) Try.underlying24 rfl (by kernel_rfl)) (by assumption) ?_; (try simp only [Act.put, List.setIfInBounds_toArray, List.set_cons_zero, List.set_cons_succ]))
                (refine takeH (i := 32) (v := (.agg #[.int .i64 o1, .int .i64 o2, .int .i64 o3])) rfl (by kernel_rfl) (by kernel_rfl) (by kernel_rfl) (fun _ _ _ h => h) (yieldsIf_load_rowE (by rfl) 24 (.tmp 23) rfl (w9.heap.size + 1) rfl 24 #[.int .i64 o1, .int .i64 o2, .int .i64 o3] (0, 0) _ (fun W h => h.2.2.2.2.2.2.2.2.2.2) Try.underlying24 rfl (by kernel_rfl)) (by assumption) ?_; (try simp only [Act.put, List.setIfInBounds_toArray, List.set_cons_zero, List.set_cons_succ]))
                (refine takeH (i := 33) (v := ?_) rfl (by kernel_rfl) (by kernel_rfl) (by kernel_rfl) (fun _ _ _ h => h) (Or.inl ⟨by rfl, ?_⟩) (by assumption) ?_; rotate_left; (focus ((intro wS hSw); (try dsimp only at hSw); obtain ⟨s0, s1, s2, s3, s4, s5, s6, s7, s8, s9, s10⟩ := hSw; go_simp; (try with_reducible rfl); done)); (try simp only [Act.put, List.setIfInBounds_toArray, List.set_cons_zero, List.set_cons_succ]))
                (refine takeH (i := 34) (v := ?_) rfl (by kernel_rfl) (by kernel_rfl) (by kernel_rfl) (fun _ _ _ h => h) (Or.inl ⟨by rfl, ?_⟩) (by assumption) ?_; rotate_left; (focus ((intro wS hSw); (try dsimp only at hSw); obtain ⟨s0, s1, s2, s3, s4, s5, s6, s7, s8, s9, s10⟩ := hSw; go_simp; (try with_reducible rfl); done)); (try simp only [Act.put, List.setIfInBounds_toArray, List.set_cons_zero, List.set_cons_succ]))
                (refine takeH (i := 35) (v := ?_) rfl (by kernel_rfl) (by kernel_rfl) (by kernel_rfl) (fun _ _ _ h => h) (Or.inl ⟨by rfl, ?_⟩) (by assumption) ?_; rotate_left; (focus ((intro wS hSw); (try dsimp only at hSw); obtain ⟨s0, s1, s2, s3, s4, s5, s6, s7, s8, s9, s10⟩ := hSw; go_simp; (try with_reducible rfl); done)); (try simp only [Act.put, List.setIfInBounds_toArray, List.set_cons_zero, List.set_cons_succ]))
                (refine takeH (i := 36) (v := ?_) rfl (by kernel_rfl) (by kernel_rfl) (by kernel_rfl) (fun _ _ _ h => h) (Or.inl ⟨by rfl, ?_⟩) (by assumption) ?_; rotate_left; (focus ((intro wS hSw); (try dsimp only at hSw); obtain ⟨s0, s1, s2, s3, s4, s5, s6, s7, s8, s9, s10⟩ := hSw; go_simp; (try with_reducible rfl); done)); (try simp only [Act.put, List.setIfInBounds_toArray, List.set_cons_zero, List.set_cons_succ]))
                (refine takeH (i := 37) (v := ?_) rfl (by kernel_rfl) (by kernel_rfl) (by kernel_rfl) (fun _ _ _ h => h) (Or.inl ⟨by rfl, ?_⟩) (by assumption) ?_; rotate_left; (focus ((intro wS hSw); (try dsimp only at hSw); obtain ⟨s0, s1, s2, s3, s4, s5, s6, s7, s8, s9, s10⟩ := hSw; go_simp; (try with_reducible rfl); done)); (try simp only [Act.put, List.setIfInBounds_toArray, List.set_cons_zero, List.set_cons_succ]))
                (refine takeH (i := 38) (v := ?_) rfl (by kernel_rfl) (by kernel_rfl) (by kernel_rfl) (fun _ _ _ h => h) (Or.inl ⟨by rfl, ?_⟩) (by assumption) ?_; rotate_left; (focus ((intro wS hSw); (try dsimp only at hSw); obtain ⟨s0, s1, s2, s3, s4, s5, s6, s7, s8, s9, s10⟩ := hSw; go_simp; (try with_reducible rfl); done)); (try simp only [Act.put, List.setIfInBounds_toArray, List.set_cons_zero, List.set_cons_succ]))
                (refine takeH (i := 39) (v := ?_) rfl (by kernel_rfl) (by kernel_rfl) (by kernel_rfl) (fun _ _ _ h => h) (Or.inl ⟨by rfl, ?_⟩) (by assumption) ?_; rotate_left; (focus ((intro wS hSw); (try dsimp only at hSw); obtain ⟨s0, s1, s2, s3, s4, s5, s6, s7, s8, s9, s10⟩ := hSw; go_simp; (try with_reducible rfl); done)); (try simp only [Act.put, List.setIfInBounds_toArray, List.set_cons_zero, List.set_cons_succ]))
                (refine takeH (i := 40) (v := ?_) rfl (by kernel_rfl) (by kernel_rfl) (by kernel_rfl) (fun _ _ _ h => h) (Or.inl ⟨by rfl, ?_⟩) (by assumption) ?_; rotate_left; (focus ((intro wS hSw); (try dsimp only at hSw); obtain ⟨s0, s1, s2, s3, s4, s5, s6, s7, s8, s9, s10⟩ := hSw; go_simp; (try with_reducible rfl); done)); (try simp only [Act.put, List.setIfInBounds_toArray, List.set_cons_zero, List.set_cons_succ]))
                (refine takeH (i := 41) (v := ?_) rfl (by kernel_rfl) (by kernel_rfl) (by kernel_rfl) (fun _ _ _ h => h) (Or.inl ⟨by rfl, ?_⟩) (by assumption) ?_; rotate_left; (focus ((intro wS hSw); (try dsimp only at hSw); obtain ⟨s0, s1, s2, s3, s4, s5, s6, s7, s8, s9, s10⟩ := hSw; go_simp; (try with_reducible rfl); done)); (try simp only [Act.put, List.setIfInBounds_toArray, List.set_cons_zero, List.set_cons_succ]))
                (refine takeH (i := 43) (v := (.agg #[.int .i64 k, .int .i64 f1, .int .i64 f2, .int .i64 da, .int .i64 db])) rfl (by kernel_rfl) (by kernel_rfl) (by kernel_rfl) (fun _ _ _ h => h) (yieldsIf_load_rowE (by rfl) 31 (.tmp 12) rfl G rfl 31 #[.int .i64 k, .int .i64 f1, .int .i64 f2, .int .i64 da, .int .i64 db] (0, 0) _ (fun W h => h.2.2.2.2.2.2.1) Try.underlying31 rfl (by kernel_rfl)) (by assumption) ?_; (try simp only [Act.put, List.setIfInBounds_toArray, List.set_cons_zero, List.set_cons_succ]))
                refine aloneH (i := 42) rfl (by kernel_rfl) (fun K hK => ?_)
                rw [if_pos (by rfl)]
                go_simp; ((refine (HF1.out _ (HCd.out.on (below_then (below_then (below_then HB1.out HB2.out) HB3.out) HB4.out))).mono ?_); (rintro e w15 ⟨rfl, hb⟩); have HB5 := Lib.hid hb; clear hb; (try go_simp))
                refine hK.out _ _ (⟨cell_on HB5.out hHeld.1, cell_on HB5.out hHeld.2.1, cell_on HB5.out hHeld.2.2.1, cell_on HB5.out hHeld.2.2.2.1, cell_on HB5.out hHeld.2.2.2.2.1, cell_on HB5.out hHeld.2.2.2.2.2.1, heap_on HB5.out hHeld.2.2.2.2.2.2.1, heap_on HB5.out hHeld.2.2.2.2.2.2.2.1, heap_on HB5.out hHeld.2.2.2.2.2.2.2.2.1, heap_on HB5.out hHeld.2.2.2.2.2.2.2.2.2.1, heap_on HB5.out hHeld.2.2.2.2.2.2.2.2.2.2⟩) (fun hNew => ?_)
                clear hK K hHeld; (have hHeld := hNew); clear hNew; (try simp only [Act.put, List.setIfInBounds_toArray, List.set_cons_zero, List.set_cons_succ])
                refine aloneH (i := 44) rfl (by kernel_rfl) (fun K hK => ?_)
                rw [if_pos (by rfl)]
                go_simp; ((refine (HF2.out _).mono ?_); (rintro e w16 ⟨rfl, hb⟩); have HB6 := Lib.hid hb; clear hb; (try go_simp))
                refine hK.out _ _ (⟨cell_on HB6.out hHeld.1, cell_on HB6.out hHeld.2.1, cell_on HB6.out hHeld.2.2.1, cell_on HB6.out hHeld.2.2.2.1, cell_on HB6.out hHeld.2.2.2.2.1, cell_on HB6.out hHeld.2.2.2.2.2.1, heap_on HB6.out hHeld.2.2.2.2.2.2.1, heap_on HB6.out hHeld.2.2.2.2.2.2.2.1, heap_on HB6.out hHeld.2.2.2.2.2.2.2.2.1, heap_on HB6.out hHeld.2.2.2.2.2.2.2.2.2.1, heap_on HB6.out hHeld.2.2.2.2.2.2.2.2.2.2⟩) (fun hNew => ?_)
                clear hK K hHeld; (have hHeld := hNew); clear hNew; (try simp only [Act.put, List.setIfInBounds_toArray, List.set_cons_zero, List.set_cons_succ])
                (refine takeH (i := 45) (v := ?_) rfl (by kernel_rfl) (by kernel_rfl) (by kernel_rfl) (fun _ _ _ h => h) (Or.inl ⟨by rfl, ?_⟩) (by assumption) ?_; rotate_left; (focus ((intro wS hSw); (try dsimp only at hSw); obtain ⟨s0, s1, s2, s3, s4, s5, s6, s7, s8, s9, s10⟩ := hSw; go_simp; (try with_reducible rfl); done)); (try simp only [Act.put, List.setIfInBounds_toArray, List.set_cons_zero, List.set_cons_succ]))
                (refine takeH (i := 46) (v := ?_) rfl (by kernel_rfl) (by kernel_rfl) (by kernel_rfl) (fun _ _ _ h => h) (Or.inl ⟨by rfl, ?_⟩) (by assumption) ?_; rotate_left; (focus ((intro wS hSw); (try dsimp only at hSw); obtain ⟨s0, s1, s2, s3, s4, s5, s6, s7, s8, s9, s10⟩ := hSw; go_simp; (try with_reducible rfl); done)); (try simp only [Act.put, List.setIfInBounds_toArray, List.set_cons_zero, List.set_cons_succ]))
                (refine takeH (i := 47) (v := ?_) rfl (by kernel_rfl) (by kernel_rfl) (by kernel_rfl) (fun _ _ _ h => h) (Or.inl ⟨by rfl, ?_⟩) (by assumption) ?_; rotate_left; (focus ((intro wS hSw); (try dsimp only at hSw); obtain ⟨s0, s1, s2, s3, s4, s5, s6, s7, s8, s9, s10⟩ := hSw; go_simp; (try with_reducible rfl); done)); (try simp only [Act.put, List.setIfInBounds_toArray, List.set_cons_zero, List.set_cons_succ]))
                (refine takeH (i := 48) (v := ?_) rfl (by kernel_rfl) (by kernel_rfl) (by kernel_rfl) (fun _ _ _ h => h) (Or.inl ⟨by rfl, ?_⟩) (by assumption) ?_; rotate_left; (focus ((intro wS hSw); (try dsimp only at hSw); obtain ⟨s0, s1, s2, s3, s4, s5, s6, s7, s8, s9, s10⟩ := hSw; go_simp; (try with_reducible rfl); done)); (try simp only [Act.put, List.setIfInBounds_toArray, List.set_cons_zero, List.set_cons_succ]))
                (refine takeH (i := 50) (v := ?_) rfl (by kernel_rfl) (by kernel_rfl) (by kernel_rfl) (fun _ _ _ h => h) (Or.inl ⟨by rfl, ?_⟩) (by assumption) ?_; rotate_left; (focus ((intro wS hSw); (try dsimp only at hSw); obtain ⟨s0, s1, s2, s3, s4, s5, s6, s7, s8, s9, s10⟩ := hSw; go_simp; (try with_reducible rfl); done)); (try simp only [Act.put, List.setIfInBounds_toArray, List.set_cons_zero, List.set_cons_succ]))
                refine aloneH (i := 49) rfl (by kernel_rfl) (fun K hK => ?_)
                rw [if_pos (by rfl)]
                go_simp; ((refine (HKd.out _ (HCd.out.on (below_then (below_then (below_then (below_then (below_then HB1.out HB2.out) HB3.out) HB4.out) HB5.out) HB6.out))).mono ?_); (rintro e w17 ⟨rfl, rfl⟩); (try go_simp))
                have HB7 : Hid (Below w16.heap.size w16 w16) := Lib.hid (Below.refl _ _)
                refine hK.out _ _ (hHeld) (fun hNew => ?_)
                clear hK K hHeld; (have hHeld := hNew); clear hNew; (try simp only [Act.put, List.setIfInBounds_toArray, List.set_cons_zero, List.set_cons_succ])
                (refine takeH (i := 51) (v := ?_) rfl (by kernel_rfl) (by kernel_rfl) (by kernel_rfl) (fun _ _ _ h => h) (Or.inl ⟨by rfl, ?_⟩) (by assumption) ?_; rotate_left; (focus ((intro wS hSw); (try dsimp only at hSw); obtain ⟨s0, s1, s2, s3, s4, s5, s6, s7, s8, s9, s10⟩ := hSw; go_simp; (try with_reducible rfl); done)); (try simp only [Act.put, List.setIfInBounds_toArray, List.set_cons_zero, List.set_cons_succ]))
                (refine takeH (i := 52) (v := ?_) rfl (by kernel_rfl) (by kernel_rfl) (by kernel_rfl) (fun _ _ _ h => h) (Or.inl ⟨by rfl, ?_⟩) (by assumption) ?_; rotate_left; (focus ((intro wS hSw); (try dsimp only at hSw); obtain ⟨s0, s1, s2, s3, s4, s5, s6, s7, s8, s9, s10⟩ := hSw; go_simp; (try with_reducible rfl); done)); (try simp only [Act.put, List.setIfInBounds_toArray, List.set_cons_zero, List.set_cons_succ]))
                (refine takeH (i := 53) (v := ?_) rfl (by kernel_rfl) (by kernel_rfl) (by kernel_rfl) (fun _ _ _ h => h) (Or.inl ⟨by rfl, ?_⟩) (by assumption) ?_; rotate_left; (focus ((intro wS hSw); (try dsimp only at hSw); obtain ⟨s0, s1, s2, s3, s4, s5, s6, s7, s8, s9, s10⟩ := hSw; go_simp; (try with_reducible rfl); done)); (try simp only [Act.put, List.setIfInBounds_toArray, List.set_cons_zero, List.set_cons_succ]))
                (refine takeH (i := 54) (v := ?_) rfl (by kernel_rfl) (by kernel_rfl) (by kernel_rfl) (fun _ _ _ h => h) (Or.inl ⟨by rfl, ?_⟩) (by assumption) ?_; rotate_left; (focus ((intro wS hSw); (try dsimp only at hSw); obtain ⟨s0, s1, s2, s3, s4, s5, s6, s7, s8, s9, s10⟩ := hSw; go_simp; (try with_reducible rfl); done)); (try simp only [Act.put, List.setIfInBounds_toArray, List.set_cons_zero, List.set_cons_succ]))
                (refine takeH (i := 56) (v := (.agg #[.int .i64 k, .int .i64 f1, .int .i64 f2, .int .i64 da, .int .i64 db])) rfl (by kernel_rfl) (by kernel_rfl) (by kernel_rfl) (fun _ _ _ h => h) (yieldsIf_load_rowE (by rfl) 31 (.tmp 12) rfl G rfl 31 #[.int .i64 k, .int .i64 f1, .int .i64 f2, .int .i64 da, .int .i64 db] (0, 0) _ (fun W h => h.2.2.2.2.2.2.1) Try.underlying31 rfl (by kernel_rfl)) (by assumption) ?_; (try simp only [Act.put, List.setIfInBounds_toArray, List.set_cons_zero, List.set_cons_succ]))
                refine aloneH (i := 55) rfl (by kernel_rfl) (fun K hK => ?_)
                rw [if_pos (by rfl)]
                go_simp; ((refine (HFl.out _ (HCd.out.on (below_then (below_then (below_then (below_then (below_then (below_then HB1.out HB2.out) HB3.out) HB4.out) HB5.out) HB6.out) HB7.out))).mono ?_); (rintro e w18 ⟨A1, cp1, rfl, hrow, hb⟩); have HW1 := Lib.hid hrow; have HB8 := Lib.hid hb; clear hb hrow; (try go_simp))
                refine hK.out _ _ (⟨cell_on HB8.out hHeld.1, cell_on HB8.out hHeld.2.1, cell_on HB8.out hHeld.2.2.1, cell_on HB8.out hHeld.2.2.2.1, cell_on HB8.out hHeld.2.2.2.2.1, cell_on HB8.out hHeld.2.2.2.2.2.1, heap_on HB8.out hHeld.2.2.2.2.2.2.1, heap_on HB8.out hHeld.2.2.2.2.2.2.2.1, heap_on HB8.out hHeld.2.2.2.2.2.2.2.2.1, heap_on HB8.out hHeld.2.2.2.2.2.2.2.2.2.1, heap_on HB8.out hHeld.2.2.2.2.2.2.2.2.2.2⟩) (fun hNew => ?_)
                clear hK K hHeld; (have hHeld := hNew); clear hNew; (try simp only [Act.put, List.setIfInBounds_toArray, List.set_cons_zero, List.set_cons_succ])
                refine aloneH (i := 57) rfl (by kernel_rfl) (fun K hK => ?_)
                rw [if_pos (by rfl)]
                go_simp; ((refine (HAl.out _).mono ?_); (rintro e w19 ⟨A2, cp2, rfl, hrow, hb⟩); have HW2 := Lib.hid hrow; have HW1b := Lib.hid (HW1.out.on hb); have HB9 := Lib.hid hb; clear hb hrow; (try go_simp))
                refine hK.out _ _ (⟨cell_on HB9.out hHeld.1, cell_on HB9.out hHeld.2.1, cell_on HB9.out hHeld.2.2.1, cell_on HB9.out hHeld.2.2.2.1, cell_on HB9.out hHeld.2.2.2.2.1, cell_on HB9.out hHeld.2.2.2.2.2.1, heap_on HB9.out hHeld.2.2.2.2.2.2.1, heap_on HB9.out hHeld.2.2.2.2.2.2.2.1, heap_on HB9.out hHeld.2.2.2.2.2.2.2.2.1, heap_on HB9.out hHeld.2.2.2.2.2.2.2.2.2.1, heap_on HB9.out hHeld.2.2.2.2.2.2.2.2.2.2⟩) (fun hNew => ?_)
                clear hK K hHeld; (have hHeld := hNew); clear hNew; (try simp only [Act.put, List.setIfInBounds_toArray, List.set_cons_zero, List.set_cons_succ])
                refine aloneH (i := 58) rfl (by kernel_rfl) (fun K hK => ?_)
                rw [if_pos (by rfl)]
                go_simp; ((refine (same_yes _ A1 A2 cp1 cp2 LL HW1b.out HW2.out HLl.out).mono ?_); (rintro e w110 ⟨rfl, hb⟩); have HB10 := Lib.hid hb; clear hb; (try go_simp))
                refine hK.out _ _ (⟨cell_on HB10.out hHeld.1, cell_on HB10.out hHeld.2.1, cell_on HB10.out hHeld.2.2.1, cell_on HB10.out hHeld.2.2.2.1, cell_on HB10.out hHeld.2.2.2.2.1, cell_on HB10.out hHeld.2.2.2.2.2.1, heap_on HB10.out hHeld.2.2.2.2.2.2.1, heap_on HB10.out hHeld.2.2.2.2.2.2.2.1, heap_on HB10.out hHeld.2.2.2.2.2.2.2.2.1, heap_on HB10.out hHeld.2.2.2.2.2.2.2.2.2.1, heap_on HB10.out hHeld.2.2.2.2.2.2.2.2.2.2⟩) (fun hNew => ?_)
                clear hK K hHeld; (have hHeld := hNew); clear hNew; (try simp only [Act.put, List.setIfInBounds_toArray, List.set_cons_zero, List.set_cons_succ])
                (refine takeH (i := 59) (v := ?_) rfl (by kernel_rfl) (by kernel_rfl) (by kernel_rfl) (fun _ _ _ h => h) (Or.inl ⟨by rfl, ?_⟩) (by assumption) ?_; rotate_left; (focus ((intro wS hSw); (try dsimp only at hSw); obtain ⟨s0, s1, s2, s3, s4, s5, s6, s7, s8, s9, s10⟩ := hSw; go_simp; (try with_reducible rfl); done)); (try simp only [Act.put, List.setIfInBounds_toArray, List.set_cons_zero, List.set_cons_succ]))
                (refine takeH (i := 60) (v := ?_) rfl (by kernel_rfl) (by kernel_rfl) (by kernel_rfl) (fun _ _ _ h => h) (Or.inl ⟨by rfl, ?_⟩) (by assumption) ?_; rotate_left; (focus ((intro wS hSw); (try dsimp only at hSw); obtain ⟨s0, s1, s2, s3, s4, s5, s6, s7, s8, s9, s10⟩ := hSw; go_simp; (try with_reducible rfl); done)); (try simp only [Act.put, List.setIfInBounds_toArray, List.set_cons_zero, List.set_cons_succ]))
                refine wpAnyH_done (by kernel_rfl) ?_ _
                have b1 := (below_then (below_then (below_then (below_then (below_then (below_then (below_then (below_then (below_then HB1.out HB2.out) HB3.out) HB4.out) HB5.out) HB6.out) HB7.out) HB8.out) HB9.out) HB10.out)
                have HIz : Hid (PlI w G k F a0 ak ay ai P (j + 1) (c.fi nk ny ni) w110) := Lib.hid ⟨HCd.out.on b1, HOk1.out, HKFz.out.1, HKFz.out.2.1, HKFz.out.2.2, by rw [HRow1.out]; exact heap_on b1 HGd.out, heap_on b1 HAd.out, below_any HBd.out (Nat.le_refl _) b1, HPgz.out, HPaz.out, HGa.out⟩
                clear b1 hHeld HBd HCd HGd HAd HXd
                go_wp2
                go_roundw
                case rel => exact ⟨j + 1, P, _, HJ.out.2, by go_num, rfl, HIz⟩
                case measure => rw [hw]; exact roundsLeft_next _ _ HJ.out.2
            · as_aux_lemma =>
                have e0 : (s0 == 0) = false := by simp [h0]
                have e1 : (s0 == 1) = false := by simp [h1]
                have e2 : (s0 == 2) = false := by simp [h2]
                have e3 : (s0 == 3) = false := by simp [h3]
                clear h0 h1 h2 h3
                obtain ⟨nk, ny, ni, hn1⟩ : ∃ nk ny ni : Int, ∀ W, Calls Try.prog 10 #[.agg #[.int .i64 k, .int .i64 f1, .int .i64 f2, .int .i64 ca, .int .i64 cb]] W fun e w' => e = .returned (.agg #[.int .i64 nk, .int .i64 ny, .int .i64 ni]) ∧ Below W.heap.size W w' :=
                  ⟨_, _, _, fun W => by have := ref_first27 W c HOk.out; rw [HRow.out] at this; exact this⟩
                have HFn := Lib.hid hn1
                have HRz := HRow
                have HKFz : Hid (c.k = k ∧ c.F = F ∧ c.B - c.F ≤ ((j + 1 : Nat) : Int)) := Lib.hid ⟨HKF.out.1, HKF.out.2.1, by have := HKF.out.2.2; omega⟩
                clear hn1
                go_wp2_with (go_at_call 16; refine (code_clone _ P c HC0.out HOk.out).mono ?_; rintro e w2 ⟨rfl, hcn, hb⟩; have HC2 := Lib.hid (HC0.out.on hb); have HN2 := Lib.hid hcn; have HG2 := Lib.hid (heap_on hb HG0.out); have HX2 := Lib.hid (heap_on hb HX0.out); have HA2 := Lib.hid (heap_on hb HA0.out); have HB2 := Lib.hid (below_any HB0.out (Nat.le_refl _) hb); clear hb hcn; refine Stop.out ?_)
                unfold Stop
                clear y0 y1 y2 y3
                obtain ⟨Q, hQ⟩ : ∃ Q, Q = (wr.alloc (.cells #[.int .i64 s0, .int .i64 pk, .int .i64 py, .int .i64 pi] 26)).heap.size := ⟨_, rfl⟩
                have hQ2 : Q = wr.heap.size + 1 := by rw [hQ]; simp
                try rw [← hQ]
                rw [← hQ] at HN2
                have HQn : Hid (Q ≠ P ∧ Q ≠ G ∧ w.heap.size < Q) := Lib.hid (by
                  have q1 := heapLt HC0.out
                  have q2 := heapLt HG0.out
                  have q3 := heapLt HA0.out
                  rw [← hQ] at q1 q2 q3
                  exact ⟨Nat.ne_of_gt q1, Nat.ne_of_gt q2, q3⟩)
                try rw [← hQ2]
                clear hQ hQ2
                obtain ⟨g0, g1, g2, g3, g4⟩ := cells5_row HG2.out
                go_wp2_with (go_at_call 10; refine (HFn.out _).mono ?_; rintro e w3 ⟨rfl, hb⟩; have HC3 := Lib.hid (HC2.out.on hb); have HN3 := Lib.hid (HN2.out.on hb); have HG3 := Lib.hid (heap_on hb HG2.out); have HX3 := Lib.hid (heap_on hb HX2.out); have HA3 := Lib.hid (heap_on hb HA2.out); have HB3 := Lib.hid (below_any HB2.out (Nat.le_refl _) hb); clear hb; refine Stop.out ?_)
                unfold Stop
                clear g0 g1 g2 g3 g4
                go_wp2_with (go_at_call 12; refine (code_close _ P c nk ny ni HC3.out HOk.out).mono ?_; rintro e w5 hs; have HXz := Lib.hid (hs.on HX3.out HNe.out.1); have HAz := Lib.hid (hs.on HA3.out (Nat.ne_of_lt HPa.out)); have HGz := Lib.hid (hs.on HG3.out HPg.out.symm); have HCz : Hid (CkAt w5 Q c) := Lib.hid (hs.on HN3.out HQn.out.1); have HBz := Lib.hid (HB3.out.trans (hs.2.2.below (base := w.heap.size) HB3.out.size (Nat.le_of_lt HPa.out))); obtain rfl := hs.1; clear hs; refine Stop.out ?_)
                unfold Stop
                have HPgz := Lib.hid HQn.out.2.1
                have HPaz := Lib.hid HQn.out.2.2
                have ok1 : c.Ok := HOk.out
                have HRow1 : Hid (cRow c = #[.int .i64 k, .int .i64 f1, .int .i64 f2, .int .i64 ca, .int .i64 cb]) := HRz
                obtain ⟨p1, p2, p3, o1, o2, o3, re, hrc, hrd⟩ := routes_both c ok1 when_
                rw [HRow1.out] at hrd
                have HRc := Lib.hid (hrc Q)
                have HRd := Lib.hid hrd
                obtain ⟨v1, hv1⟩ : ∃ v1, v1 = c.st ak ay ai := ⟨_, rfl⟩
                obtain ⟨v2, hv2⟩ : ∃ v2, v2 = c.st pk py pi := ⟨_, rfl⟩
                have HS1 : Hid (∀ W, CkAt W Q c → Calls Try.prog 19 #[.pointer (some ⟨Q, 0, none⟩), .agg #[.int .i64 ak, .int .i64 ay, .int .i64 ai]] W fun e w' => e = .returned (.int .i64 v1) ∧ Below W.heap.size W w') := Lib.hid (fun W h => by rw [hv1]; exact code_state W _ _ _ _ _ h ok1)
                have HS2 : Hid (∀ W, Calls Try.prog 20 #[.agg #[.int .i64 k, .int .i64 f1, .int .i64 f2, .int .i64 ca, .int .i64 cb], .agg #[.int .i64 ak, .int .i64 ay, .int .i64 ai]] W fun e w' => e = .returned (.int .i64 v1) ∧ Below W.heap.size W w') := Lib.hid (fun W => by have := ref_state W _ ok1 ak ay ai; rw [HRow1.out, ← hv1] at this; exact this)
                have HS3 : Hid (∀ W, CkAt W Q c → Calls Try.prog 19 #[.pointer (some ⟨Q, 0, none⟩), .agg #[.int .i64 pk, .int .i64 py, .int .i64 pi]] W fun e w' => e = .returned (.int .i64 v2) ∧ Below W.heap.size W w') := Lib.hid (fun W h => by rw [hv2]; exact code_state W _ _ _ _ _ h ok1)
                have HS4 : Hid (∀ W, Calls Try.prog 20 #[.agg #[.int .i64 k, .int .i64 f1, .int .i64 f2, .int .i64 ca, .int .i64 cb], .agg #[.int .i64 pk, .int .i64 py, .int .i64 pi]] W fun e w' => e = .returned (.int .i64 v2) ∧ Below W.heap.size W w') := Lib.hid (fun W => by have := ref_state W _ ok1 pk py pi; rw [HRow1.out, ← hv2] at this; exact this)
                obtain ⟨q1, q2, q3, hq1, hq2⟩ : ∃ q1 q2 q3 : Int, (∀ W, CkAt W Q c → Calls Try.prog 21 #[.pointer (some ⟨Q, 0, none⟩)] W fun e w' => e = .returned (.agg #[.int .i64 q1, .int .i64 q2, .int .i64 q3]) ∧ Below W.heap.size W w') ∧ (∀ W, Calls Try.prog 10 #[.agg #[.int .i64 k, .int .i64 f1, .int .i64 f2, .int .i64 ca, .int .i64 cb]] W fun e w' => e = .returned (.agg #[.int .i64 q1, .int .i64 q2, .int .i64 q3]) ∧ Below W.heap.size W w') :=
                  ⟨_, _, _, fun W h => code_first_ W _ _ h ok1, fun W => by have := ref_first27 W _ ok1; rw [HRow1.out] at this; exact this⟩
                have HF1 := Lib.hid hq1
                have HF2 := Lib.hid hq2
                have HKd : Hid (∀ W, CkAt W Q c → Calls Try.prog 22 #[.pointer (some ⟨Q, 0, none⟩)] W fun e w' => e = .returned (.int .i64 k) ∧ W = w') := Lib.hid (fun W h => by have := code_kind_ W _ _ h ok1; rw [show c.k = k from HKFz.out.1] at this; exact this)
                have hfew : c.B - c.F ≤ ((j + 1 : Nat) : Int) := HKFz.out.2.2
                obtain ⟨mm, hmm⟩ : ∃ mm : Nat, c.F + mm = c.B := ⟨(c.B - c.F).toNat, by have := ok1.fb; omega⟩
                obtain ⟨LL, hLL⟩ : ∃ LL, LL = persL c.k c.F mm := ⟨_, rfl⟩
                have hm9 : mm ≤ 900 := by have := HL.out; have := HJ.out.2; omega
                have HLl : Hid (LL.length ≤ 1000) := Lib.hid (by rw [hLL, persL_len]; omega)
                have HFl : Hid (∀ W, CkAt W Q c → Calls Try.prog 24 #[.pointer (some ⟨Q, 0, none⟩)] W fun e w' => ∃ A cp, e = .returned (.slice A LL.length cp) ∧ RowPerV w' A LL ∧ Below W.heap.size W w') := Lib.hid (fun W h => by rw [hLL]; exact (code_filed W _ _ h ok1 mm hmm hm9).mono fun e w' q => rows_of q)
                have HAl : Hid (∀ W, Calls Try.prog 25 #[.agg #[.int .i64 k, .int .i64 f1, .int .i64 f2, .int .i64 ca, .int .i64 cb]] W fun e w' => ∃ A cp, e = .returned (.slice A LL.length cp) ∧ RowPerV w' A LL ∧ Below W.heap.size W w') := Lib.hid (fun W => by rw [hLL]; have := ref_all W _ ok1 mm hmm hm9; rw [HRow1.out] at this; exact this.mono fun e w' q => rows_of q)
                have HOk1 := Lib.hid ok1
                clear ok1 hrc hrd hv1 hv2 hq1 hq2 hfew hmm hLL hm9
                go_wp2_with (go_at_call 17; refine (HRc.out _ HCz.out).mono ?_; rintro e w8 ⟨rfl, hb⟩; have HC8 := Lib.hid (HCz.out.on hb); have HG8 := Lib.hid (heap_on hb HGz.out); have HA8 := Lib.hid (heap_on hb HAz.out); have HX8 := Lib.hid (heap_on hb HXz.out); have HB8 := Lib.hid (below_any HBz.out (Nat.le_refl _) hb); clear hb; refine Stop.out ?_)
                unfold Stop
                have b8 := below_then (below_alloc w8 (.cells #[.int .i64 p1, .int .i64 p2, .int .i64 p3] 24)) (below_alloc _ (.cells #[.int .i64 o1, .int .i64 o2, .int .i64 o3] 24))
                have HC8b := Lib.hid (HC8.out.on b8)
                have HG8b := Lib.hid (heap_on b8 HG8.out)
                have HA8b := Lib.hid (heap_on b8 HA8.out)
                have HX8b := Lib.hid (heap_on b8 HX8.out)
                have HB8b := Lib.hid (below_any HB8.out (Nat.le_refl _) b8)
                have HP8b := Lib.hid (heap_on (below_alloc _ (.cells #[.int .i64 o1, .int .i64 o2, .int .i64 o3] 24)) (heap_alloc_new w8 (.cells #[.int .i64 p1, .int .i64 p2, .int .i64 p3] 24)))
                have HO8b := Lib.hid (heap_alloc_new2 w8 (.cells #[.int .i64 p1, .int .i64 p2, .int .i64 p3] 24) (.cells #[.int .i64 o1, .int .i64 o2, .int .i64 o3] 24))
                have hz8 : G < w8.heap.size := heapLt HG8.out
                clear b8
                obtain ⟨g0, g1, g2, g3, g4⟩ := cells5_row HG8.out
                go_wp2_with (go_at_call 18; refine (HRd.out _).mono ?_; rintro e w9 ⟨rfl, hb⟩; have HC9 := Lib.hid (HC8b.out.on hb); have HG9 := Lib.hid (heap_on hb HG8b.out); have HA9 := Lib.hid (heap_on hb HA8b.out); have HX9 := Lib.hid (heap_on hb HX8b.out); have HB9 := Lib.hid (below_any HB8b.out (Nat.le_refl _) hb); have HP9 := Lib.hid (heap_on hb HP8b.out); have HO9 := Lib.hid (heap_on hb HO8b.out); clear hb; refine Stop.out ?_)
                unfold Stop
                clear g0 g1 g2 g3 g4 hz8
                have b9 := below_then (below_alloc w9 (.cells #[.int .i64 p1, .int .i64 p2, .int .i64 p3] 24)) (below_alloc _ (.cells #[.int .i64 o1, .int .i64 o2, .int .i64 o3] 24))
                have HCd := Lib.hid (HC9.out.on b9.drew)
                have HGd := Lib.hid (heap_on b9.drew HG9.out)
                have HAd := Lib.hid (heap_on b9.drew HA9.out)
                have HXd := Lib.hid (heap_on b9.drew HX9.out)
                have HBd := Lib.hid (below_any HB9.out (Nat.le_refl _) b9).drew
                have hS := And.intro (heap_on b9.drew HP9.out) (And.intro (heap_on b9.drew HO9.out) (And.intro (heap_on (below_alloc _ (.cells #[.int .i64 o1, .int .i64 o2, .int .i64 o3] 24)) (heap_alloc_new w9 (.cells #[.int .i64 p1, .int .i64 p2, .int .i64 p3] 24))) (heap_alloc_new2 w9 (.cells #[.int .i64 p1, .int .i64 p2, .int .i64 p3] 24) (.cells #[.int .i64 o1, .int .i64 o2, .int .i64 o3] 24))))
                have hA := cells4_row HAd.out
                have hX := cells4_row HXd.out
                have HS := Lib.hid (And.intro hA.2.1 (And.intro hA.2.2.1 (And.intro hA.2.2.2 (And.intro hX.2.1 (And.intro hX.2.2.1 (And.intro hX.2.2.2 (And.intro HGd.out hS)))))))
                clear b9 hS hA hX
                go_wp2_with fail
                refine wp_region_held_drew (S := fun W => W.cell? ⟨w.heap.size, 1, none⟩ = some (.int .i64 ak) ∧ W.cell? ⟨w.heap.size, 2, none⟩ = some (.int .i64 ay) ∧ W.cell? ⟨w.heap.size, 3, none⟩ = some (.int .i64 ai) ∧ W.cell? ⟨wr.heap.size, 1, none⟩ = some (.int .i64 pk) ∧ W.cell? ⟨wr.heap.size, 2, none⟩ = some (.int .i64 py) ∧ W.cell? ⟨wr.heap.size, 3, none⟩ = some (.int .i64 pi) ∧ W.heap[G]? = some (.cells #[.int .i64 k, .int .i64 f1, .int .i64 f2, .int .i64 ca, .int .i64 cb] 31 (0, 0)) ∧ W.heap[w8.heap.size]? = some (.cells #[.int .i64 p1, .int .i64 p2, .int .i64 p3] 24 (0, 0)) ∧ W.heap[(w8.heap.size + 1)]? = some (.cells #[.int .i64 o1, .int .i64 o2, .int .i64 o3] 24 (0, 0)) ∧ W.heap[w9.heap.size]? = some (.cells #[.int .i64 p1, .int .i64 p2, .int .i64 p3] 24 (0, 0)) ∧ W.heap[(w9.heap.size + 1)]? = some (.cells #[.int .i64 o1, .int .i64 o2, .int .i64 o3] 24 (0, 0))) (by kernel_rfl) HS.out ?_
                intro hHeld
                clear HS
                generalize ((w9.alloc (.cells #[.int .i64 p1, .int .i64 p2, .int .i64 p3] 24)).alloc (.cells #[.int .i64 o1, .int .i64 o2, .int .i64 o3] 24)).drew = wd at HBd HCd HGd HAd HXd hHeld ⊢
                (refine takeH (i := 0) (v := ?_) rfl (by kernel_rfl) (by kernel_rfl) (by kernel_rfl) (fun _ _ _ h => h) (Or.inl ⟨by rfl, ?_⟩) (by assumption) ?_; rotate_left; (focus ((intro wS hSw); (try dsimp only at hSw); obtain ⟨s0, s1, s2, s3, s4, s5, s6, s7, s8, s9, s10⟩ := hSw; go_simp; (try with_reducible rfl); done)); (try simp only [Act.put, List.setIfInBounds_toArray, List.set_cons_zero, List.set_cons_succ]))
                (refine takeH (i := 1) (v := ?_) rfl (by kernel_rfl) (by kernel_rfl) (by kernel_rfl) (fun _ _ _ h => h) (Or.inl ⟨by rfl, ?_⟩) (by assumption) ?_; rotate_left; (focus ((intro wS hSw); (try dsimp only at hSw); obtain ⟨s0, s1, s2, s3, s4, s5, s6, s7, s8, s9, s10⟩ := hSw; go_simp; (try with_reducible rfl); done)); (try simp only [Act.put, List.setIfInBounds_toArray, List.set_cons_zero, List.set_cons_succ]))
                (refine takeH (i := 2) (v := ?_) rfl (by kernel_rfl) (by kernel_rfl) (by kernel_rfl) (fun _ _ _ h => h) (Or.inl ⟨by rfl, ?_⟩) (by assumption) ?_; rotate_left; (focus ((intro wS hSw); (try dsimp only at hSw); obtain ⟨s0, s1, s2, s3, s4, s5, s6, s7, s8, s9, s10⟩ := hSw; go_simp; (try with_reducible rfl); done)); (try simp only [Act.put, List.setIfInBounds_toArray, List.set_cons_zero, List.set_cons_succ]))
                (refine takeH (i := 3) (v := ?_) rfl (by kernel_rfl) (by kernel_rfl) (by kernel_rfl) (fun _ _ _ h => h) (Or.inl ⟨by rfl, ?_⟩) (by assumption) ?_; rotate_left; (focus ((intro wS hSw); (try dsimp only at hSw); obtain ⟨s0, s1, s2, s3, s4, s5, s6, s7, s8, s9, s10⟩ := hSw; go_simp; (try with_reducible rfl); done)); (try simp only [Act.put, List.setIfInBounds_toArray, List.set_cons_zero, List.set_cons_succ]))
                (refine takeH (i := 4) (v := ?_) rfl (by kernel_rfl) (by kernel_rfl) (by kernel_rfl) (fun _ _ _ h => h) (Or.inl ⟨by rfl, ?_⟩) (by assumption) ?_; rotate_left; (focus ((intro wS hSw); (try dsimp only at hSw); obtain ⟨s0, s1, s2, s3, s4, s5, s6, s7, s8, s9, s10⟩ := hSw; go_simp; (try with_reducible rfl); done)); (try simp only [Act.put, List.setIfInBounds_toArray, List.set_cons_zero, List.set_cons_succ]))
                (refine takeH (i := 5) (v := ?_) rfl (by kernel_rfl) (by kernel_rfl) (by kernel_rfl) (fun _ _ _ h => h) (Or.inl ⟨by rfl, ?_⟩) (by assumption) ?_; rotate_left; (focus ((intro wS hSw); (try dsimp only at hSw); obtain ⟨s0, s1, s2, s3, s4, s5, s6, s7, s8, s9, s10⟩ := hSw; go_simp; (try with_reducible rfl); done)); (try simp only [Act.put, List.setIfInBounds_toArray, List.set_cons_zero, List.set_cons_succ]))
                (refine takeH (i := 6) (v := ?_) rfl (by kernel_rfl) (by kernel_rfl) (by kernel_rfl) (fun _ _ _ h => h) (Or.inl ⟨by rfl, ?_⟩) (by assumption) ?_; rotate_left; (focus ((intro wS hSw); (try dsimp only at hSw); obtain ⟨s0, s1, s2, s3, s4, s5, s6, s7, s8, s9, s10⟩ := hSw; go_simp; (try with_reducible rfl); done)); (try simp only [Act.put, List.setIfInBounds_toArray, List.set_cons_zero, List.set_cons_succ]))
                (refine takeH (i := 8) (v := (.agg #[.int .i64 k, .int .i64 f1, .int .i64 f2, .int .i64 ca, .int .i64 cb])) rfl (by kernel_rfl) (by kernel_rfl) (by kernel_rfl) (fun _ _ _ h => h) (yieldsIf_load_rowE (by rfl) 31 (.tmp 12) rfl G rfl 31 #[.int .i64 k, .int .i64 f1, .int .i64 f2, .int .i64 ca, .int .i64 cb] (0, 0) _ (fun W h => h.2.2.2.2.2.2.1) Try.underlying31 rfl (by kernel_rfl)) (by assumption) ?_; (try simp only [Act.put, List.setIfInBounds_toArray, List.set_cons_zero, List.set_cons_succ]))
                (refine takeH (i := 9) (v := ?_) rfl (by kernel_rfl) (by kernel_rfl) (by kernel_rfl) (fun _ _ _ h => h) (Or.inl ⟨by rfl, ?_⟩) (by assumption) ?_; rotate_left; (focus ((intro wS hSw); (try dsimp only at hSw); obtain ⟨s0, s1, s2, s3, s4, s5, s6, s7, s8, s9, s10⟩ := hSw; go_simp; (try with_reducible rfl); done)); (try simp only [Act.put, List.setIfInBounds_toArray, List.set_cons_zero, List.set_cons_succ]))
                (refine takeH (i := 10) (v := ?_) rfl (by kernel_rfl) (by kernel_rfl) (by kernel_rfl) (fun _ _ _ h => h) (Or.inl ⟨by rfl, ?_⟩) (by assumption) ?_; rotate_left; (focus ((intro wS hSw); (try dsimp only at hSw); obtain ⟨s0, s1, s2, s3, s4, s5, s6, s7, s8, s9, s10⟩ := hSw; go_simp; (try with_reducible rfl); done)); (try simp only [Act.put, List.setIfInBounds_toArray, List.set_cons_zero, List.set_cons_succ]))
                refine aloneH (i := 7) rfl (by kernel_rfl) (fun K hK => ?_)
                rw [if_pos (by rfl)]
                go_simp; ((refine (HS1.out _ (HCd.out.on (Below.refl _ wd))).mono ?_); (rintro e w11 ⟨rfl, hb⟩); have HB1 := Lib.hid hb; clear hb; (try go_simp))
                refine hK.out _ _ (⟨cell_on HB1.out hHeld.1, cell_on HB1.out hHeld.2.1, cell_on HB1.out hHeld.2.2.1, cell_on HB1.out hHeld.2.2.2.1, cell_on HB1.out hHeld.2.2.2.2.1, cell_on HB1.out hHeld.2.2.2.2.2.1, heap_on HB1.out hHeld.2.2.2.2.2.2.1, heap_on HB1.out hHeld.2.2.2.2.2.2.2.1, heap_on HB1.out hHeld.2.2.2.2.2.2.2.2.1, heap_on HB1.out hHeld.2.2.2.2.2.2.2.2.2.1, heap_on HB1.out hHeld.2.2.2.2.2.2.2.2.2.2⟩) (fun hNew => ?_)
                clear hK K hHeld; (have hHeld := hNew); clear hNew; (try simp only [Act.put, List.setIfInBounds_toArray, List.set_cons_zero, List.set_cons_succ])
                refine aloneH (i := 11) rfl (by kernel_rfl) (fun K hK => ?_)
                rw [if_pos (by rfl)]
                go_simp; ((refine (HS2.out _).mono ?_); (rintro e w12 ⟨rfl, hb⟩); have HB2 := Lib.hid hb; clear hb; (try go_simp))
                refine hK.out _ _ (⟨cell_on HB2.out hHeld.1, cell_on HB2.out hHeld.2.1, cell_on HB2.out hHeld.2.2.1, cell_on HB2.out hHeld.2.2.2.1, cell_on HB2.out hHeld.2.2.2.2.1, cell_on HB2.out hHeld.2.2.2.2.2.1, heap_on HB2.out hHeld.2.2.2.2.2.2.1, heap_on HB2.out hHeld.2.2.2.2.2.2.2.1, heap_on HB2.out hHeld.2.2.2.2.2.2.2.2.1, heap_on HB2.out hHeld.2.2.2.2.2.2.2.2.2.1, heap_on HB2.out hHeld.2.2.2.2.2.2.2.2.2.2⟩) (fun hNew => ?_)
                clear hK K hHeld; (have hHeld := hNew); clear hNew; (try simp only [Act.put, List.setIfInBounds_toArray, List.set_cons_zero, List.set_cons_succ])
                (refine takeH (i := 12) (v := ?_) rfl (by kernel_rfl) (by kernel_rfl) (by kernel_rfl) (fun _ _ _ h => h) (Or.inl ⟨by rfl, ?_⟩) (by assumption) ?_; rotate_left; (focus ((intro wS hSw); (try dsimp only at hSw); obtain ⟨s0, s1, s2, s3, s4, s5, s6, s7, s8, s9, s10⟩ := hSw; go_simp; (try with_reducible rfl); done)); (try simp only [Act.put, List.setIfInBounds_toArray, List.set_cons_zero, List.set_cons_succ]))
                (refine takeH (i := 13) (v := ?_) rfl (by kernel_rfl) (by kernel_rfl) (by kernel_rfl) (fun _ _ _ h => h) (Or.inl ⟨by rfl, ?_⟩) (by assumption) ?_; rotate_left; (focus ((intro wS hSw); (try dsimp only at hSw); obtain ⟨s0, s1, s2, s3, s4, s5, s6, s7, s8, s9, s10⟩ := hSw; go_simp; (try with_reducible rfl); done)); (try simp only [Act.put, List.setIfInBounds_toArray, List.set_cons_zero, List.set_cons_succ]))
                (refine takeH (i := 14) (v := ?_) rfl (by kernel_rfl) (by kernel_rfl) (by kernel_rfl) (fun _ _ _ h => h) (Or.inl ⟨by rfl, ?_⟩) (by assumption) ?_; rotate_left; (focus ((intro wS hSw); (try dsimp only at hSw); obtain ⟨s0, s1, s2, s3, s4, s5, s6, s7, s8, s9, s10⟩ := hSw; go_simp; (try with_reducible rfl); done)); (try simp only [Act.put, List.setIfInBounds_toArray, List.set_cons_zero, List.set_cons_succ]))
                (refine takeH (i := 15) (v := ?_) rfl (by kernel_rfl) (by kernel_rfl) (by kernel_rfl) (fun _ _ _ h => h) (Or.inl ⟨by rfl, ?_⟩) (by assumption) ?_; rotate_left; (focus ((intro wS hSw); (try dsimp only at hSw); obtain ⟨s0, s1, s2, s3, s4, s5, s6, s7, s8, s9, s10⟩ := hSw; go_simp; (try with_reducible rfl); done)); (try simp only [Act.put, List.setIfInBounds_toArray, List.set_cons_zero, List.set_cons_succ]))
                (refine takeH (i := 16) (v := ?_) rfl (by kernel_rfl) (by kernel_rfl) (by kernel_rfl) (fun _ _ _ h => h) (Or.inl ⟨by rfl, ?_⟩) (by assumption) ?_; rotate_left; (focus ((intro wS hSw); (try dsimp only at hSw); obtain ⟨s0, s1, s2, s3, s4, s5, s6, s7, s8, s9, s10⟩ := hSw; go_simp; (try with_reducible rfl); done)); (try simp only [Act.put, List.setIfInBounds_toArray, List.set_cons_zero, List.set_cons_succ]))
                (refine takeH (i := 17) (v := ?_) rfl (by kernel_rfl) (by kernel_rfl) (by kernel_rfl) (fun _ _ _ h => h) (Or.inl ⟨by rfl, ?_⟩) (by assumption) ?_; rotate_left; (focus ((intro wS hSw); (try dsimp only at hSw); obtain ⟨s0, s1, s2, s3, s4, s5, s6, s7, s8, s9, s10⟩ := hSw; go_simp; (try with_reducible rfl); done)); (try simp only [Act.put, List.setIfInBounds_toArray, List.set_cons_zero, List.set_cons_succ]))
                (refine takeH (i := 19) (v := (.agg #[.int .i64 k, .int .i64 f1, .int .i64 f2, .int .i64 ca, .int .i64 cb])) rfl (by kernel_rfl) (by kernel_rfl) (by kernel_rfl) (fun _ _ _ h => h) (yieldsIf_load_rowE (by rfl) 31 (.tmp 12) rfl G rfl 31 #[.int .i64 k, .int .i64 f1, .int .i64 f2, .int .i64 ca, .int .i64 cb] (0, 0) _ (fun W h => h.2.2.2.2.2.2.1) Try.underlying31 rfl (by kernel_rfl)) (by assumption) ?_; (try simp only [Act.put, List.setIfInBounds_toArray, List.set_cons_zero, List.set_cons_succ]))
                (refine takeH (i := 20) (v := ?_) rfl (by kernel_rfl) (by kernel_rfl) (by kernel_rfl) (fun _ _ _ h => h) (Or.inl ⟨by rfl, ?_⟩) (by assumption) ?_; rotate_left; (focus ((intro wS hSw); (try dsimp only at hSw); obtain ⟨s0, s1, s2, s3, s4, s5, s6, s7, s8, s9, s10⟩ := hSw; go_simp; (try with_reducible rfl); done)); (try simp only [Act.put, List.setIfInBounds_toArray, List.set_cons_zero, List.set_cons_succ]))
                (refine takeH (i := 21) (v := ?_) rfl (by kernel_rfl) (by kernel_rfl) (by kernel_rfl) (fun _ _ _ h => h) (Or.inl ⟨by rfl, ?_⟩) (by assumption) ?_; rotate_left; (focus ((intro wS hSw); (try dsimp only at hSw); obtain ⟨s0, s1, s2, s3, s4, s5, s6, s7, s8, s9, s10⟩ := hSw; go_simp; (try with_reducible rfl); done)); (try simp only [Act.put, List.setIfInBounds_toArray, List.set_cons_zero, List.set_cons_succ]))
                refine aloneH (i := 18) rfl (by kernel_rfl) (fun K hK => ?_)
                rw [if_pos (by rfl)]
                go_simp; ((refine (HS3.out _ (HCd.out.on (below_then HB1.out HB2.out))).mono ?_); (rintro e w13 ⟨rfl, hb⟩); have HB3 := Lib.hid hb; clear hb; (try go_simp))
                refine hK.out _ _ (⟨cell_on HB3.out hHeld.1, cell_on HB3.out hHeld.2.1, cell_on HB3.out hHeld.2.2.1, cell_on HB3.out hHeld.2.2.2.1, cell_on HB3.out hHeld.2.2.2.2.1, cell_on HB3.out hHeld.2.2.2.2.2.1, heap_on HB3.out hHeld.2.2.2.2.2.2.1, heap_on HB3.out hHeld.2.2.2.2.2.2.2.1, heap_on HB3.out hHeld.2.2.2.2.2.2.2.2.1, heap_on HB3.out hHeld.2.2.2.2.2.2.2.2.2.1, heap_on HB3.out hHeld.2.2.2.2.2.2.2.2.2.2⟩) (fun hNew => ?_)
                clear hK K hHeld; (have hHeld := hNew); clear hNew; (try simp only [Act.put, List.setIfInBounds_toArray, List.set_cons_zero, List.set_cons_succ])
                refine aloneH (i := 22) rfl (by kernel_rfl) (fun K hK => ?_)
                rw [if_pos (by rfl)]
                go_simp; ((refine (HS4.out _).mono ?_); (rintro e w14 ⟨rfl, hb⟩); have HB4 := Lib.hid hb; clear hb; (try go_simp))
                refine hK.out _ _ (⟨cell_on HB4.out hHeld.1, cell_on HB4.out hHeld.2.1, cell_on HB4.out hHeld.2.2.1, cell_on HB4.out hHeld.2.2.2.1, cell_on HB4.out hHeld.2.2.2.2.1, cell_on HB4.out hHeld.2.2.2.2.2.1, heap_on HB4.out hHeld.2.2.2.2.2.2.1, heap_on HB4.out hHeld.2.2.2.2.2.2.2.1, heap_on HB4.out hHeld.2.2.2.2.2.2.2.2.1, heap_on HB4.out hHeld.2.2.2.2.2.2.2.2.2.1, heap_on HB4.out hHeld.2.2.2.2.2.2.2.2.2.2⟩) (fun hNew => ?_)
                clear hK K hHeld; (have hHeld := hNew); clear hNew; (try simp only [Act.put, List.setIfInBounds_toArray, List.set_cons_zero, List.set_cons_succ])
                (refine takeH (i := 23) (v := ?_) rfl (by kernel_rfl) (by kernel_rfl) (by kernel_rfl) (fun _ _ _ h => h) (Or.inl ⟨by rfl, ?_⟩) (by assumption) ?_; rotate_left; (focus ((intro wS hSw); (try dsimp only at hSw); obtain ⟨s0, s1, s2, s3, s4, s5, s6, s7, s8, s9, s10⟩ := hSw; go_simp; (try with_reducible rfl); done)); (try simp only [Act.put, List.setIfInBounds_toArray, List.set_cons_zero, List.set_cons_succ]))
                (refine takeH (i := 24) (v := ?_) rfl (by kernel_rfl) (by kernel_rfl) (by kernel_rfl) (fun _ _ _ h => h) (Or.inl ⟨by rfl, ?_⟩) (by assumption) ?_; rotate_left; (focus ((intro wS hSw); (try dsimp only at hSw); obtain ⟨s0, s1, s2, s3, s4, s5, s6, s7, s8, s9, s10⟩ := hSw; go_simp; (try with_reducible rfl); done)); (try simp only [Act.put, List.setIfInBounds_toArray, List.set_cons_zero, List.set_cons_succ]))
                (refine takeH (i := 25) (v := ?_) rfl (by kernel_rfl) (by kernel_rfl) (by kernel_rfl) (fun _ _ _ h => h) (Or.inl ⟨by rfl, ?_⟩) (by assumption) ?_; rotate_left; (focus ((intro wS hSw); (try dsimp only at hSw); obtain ⟨s0, s1, s2, s3, s4, s5, s6, s7, s8, s9, s10⟩ := hSw; go_simp; (try with_reducible rfl); done)); (try simp only [Act.put, List.setIfInBounds_toArray, List.set_cons_zero, List.set_cons_succ]))
                (refine takeH (i := 26) (v := (.agg #[.int .i64 p1, .int .i64 p2, .int .i64 p3])) rfl (by kernel_rfl) (by kernel_rfl) (by kernel_rfl) (fun _ _ _ h => h) (yieldsIf_load_rowE (by rfl) 24 (.tmp 19) rfl w8.heap.size rfl 24 #[.int .i64 p1, .int .i64 p2, .int .i64 p3] (0, 0) _ (fun W h => h.2.2.2.2.2.2.2.1) Try.underlying24 rfl (by kernel_rfl)) (by assumption) ?_; (try simp only [Act.put, List.setIfInBounds_toArray, List.set_cons_zero, List.set_cons_succ]))
                (refine takeH (i := 27) (v := (.agg #[.int .i64 p1, .int .i64 p2, .int .i64 p3])) rfl (by kernel_rfl) (by kernel_rfl) (by kernel_rfl) (fun _ _ _ h => h) (yieldsIf_load_rowE (by rfl) 24 (.tmp 22) rfl w9.heap.size rfl 24 #[.int .i64 p1, .int .i64 p2, .int .i64 p3] (0, 0) _ (fun W h => h.2.2.2.2.2.2.2.2.2.1) Try.underlying24 rfl (by kernel_rfl)) (by assumption) ?_; (try simp only [Act.put, List.setIfInBounds_toArray, List.set_cons_zero, List.set_cons_succ]))
                (refine takeH (i := 28) (v := ?_) rfl (by kernel_rfl) (by kernel_rfl) (by kernel_rfl) (fun _ _ _ h => h) (Or.inl ⟨by rfl, ?_⟩) (by assumption) ?_; rotate_left; (focus ((intro wS hSw); (try dsimp only at hSw); obtain ⟨s0, s1, s2, s3, s4, s5, s6, s7, s8, s9, s10⟩ := hSw; go_simp; (try with_reducible rfl); done)); (try simp only [Act.put, List.setIfInBounds_toArray, List.set_cons_zero, List.set_cons_succ]))
                (refine takeH (i := 29) (v := ?_) rfl (by kernel_rfl) (by kernel_rfl) (by kernel_rfl) (fun _ _ _ h => h) (Or.inl ⟨by rfl, ?_⟩) (by assumption) ?_; rotate_left; (focus ((intro wS hSw); (try dsimp only at hSw); obtain ⟨s0, s1, s2, s3, s4, s5, s6, s7, s8, s9, s10⟩ := hSw; go_simp; (try with_reducible rfl); done)); (try simp only [Act.put, List.setIfInBounds_toArray, List.set_cons_zero, List.set_cons_succ]))
                (refine takeH (i := 30) (v := ?_) rfl (by kernel_rfl) (by kernel_rfl) (by kernel_rfl) (fun _ _ _ h => h) (Or.inl ⟨by rfl, ?_⟩) (by assumption) ?_; rotate_left; (focus ((intro wS hSw); (try dsimp only at hSw); obtain ⟨s0, s1, s2, s3, s4, s5, s6, s7, s8, s9, s10⟩ := hSw; go_simp; (try with_reducible rfl); done)); (try simp only [Act.put, List.setIfInBounds_toArray, List.set_cons_zero, List.set_cons_succ]))
                (refine takeH (i := 31) (v := (.agg #[.int .i64 o1, .int .i64 o2, .int .i64 o3])) rfl (by kernel_rfl) (by kernel_rfl) (by kernel_rfl) (fun _ _ _ h => h) (yieldsIf_load_rowE (by rfl) 24 (.tmp 20) rfl (w8.heap.size + 1) rfl 24 #[.int .i64 o1, .int .i64 o2, .int .i64 o3] (0, 0) _ (fun W h => h.2.2.2.2.2.2.2.2.1) Try.underlying24 rfl (by kernel_rfl)) (by assumption) ?_; (try simp only [Act.put, List.setIfInBounds_toArray, List.set_cons_zero, List.set_cons_succ]))
                (refine takeH (i := 32) (v := (.agg #[.int .i64 o1, .int .i64 o2, .int .i64 o3])) rfl (by kernel_rfl) (by kernel_rfl) (by kernel_rfl) (fun _ _ _ h => h) (yieldsIf_load_rowE (by rfl) 24 (.tmp 23) rfl (w9.heap.size + 1) rfl 24 #[.int .i64 o1, .int .i64 o2, .int .i64 o3] (0, 0) _ (fun W h => h.2.2.2.2.2.2.2.2.2.2) Try.underlying24 rfl (by kernel_rfl)) (by assumption) ?_; (try simp only [Act.put, List.setIfInBounds_toArray, List.set_cons_zero, List.set_cons_succ]))
                (refine takeH (i := 33) (v := ?_) rfl (by kernel_rfl) (by kernel_rfl) (by kernel_rfl) (fun _ _ _ h => h) (Or.inl ⟨by rfl, ?_⟩) (by assumption) ?_; rotate_left; (focus ((intro wS hSw); (try dsimp only at hSw); obtain ⟨s0, s1, s2, s3, s4, s5, s6, s7, s8, s9, s10⟩ := hSw; go_simp; (try with_reducible rfl); done)); (try simp only [Act.put, List.setIfInBounds_toArray, List.set_cons_zero, List.set_cons_succ]))
                (refine takeH (i := 34) (v := ?_) rfl (by kernel_rfl) (by kernel_rfl) (by kernel_rfl) (fun _ _ _ h => h) (Or.inl ⟨by rfl, ?_⟩) (by assumption) ?_; rotate_left; (focus ((intro wS hSw); (try dsimp only at hSw); obtain ⟨s0, s1, s2, s3, s4, s5, s6, s7, s8, s9, s10⟩ := hSw; go_simp; (try with_reducible rfl); done)); (try simp only [Act.put, List.setIfInBounds_toArray, List.set_cons_zero, List.set_cons_succ]))
                (refine takeH (i := 35) (v := ?_) rfl (by kernel_rfl) (by kernel_rfl) (by kernel_rfl) (fun _ _ _ h => h) (Or.inl ⟨by rfl, ?_⟩) (by assumption) ?_; rotate_left; (focus ((intro wS hSw); (try dsimp only at hSw); obtain ⟨s0, s1, s2, s3, s4, s5, s6, s7, s8, s9, s10⟩ := hSw; go_simp; (try with_reducible rfl); done)); (try simp only [Act.put, List.setIfInBounds_toArray, List.set_cons_zero, List.set_cons_succ]))
                (refine takeH (i := 36) (v := ?_) rfl (by kernel_rfl) (by kernel_rfl) (by kernel_rfl) (fun _ _ _ h => h) (Or.inl ⟨by rfl, ?_⟩) (by assumption) ?_; rotate_left; (focus ((intro wS hSw); (try dsimp only at hSw); obtain ⟨s0, s1, s2, s3, s4, s5, s6, s7, s8, s9, s10⟩ := hSw; go_simp; (try with_reducible rfl); done)); (try simp only [Act.put, List.setIfInBounds_toArray, List.set_cons_zero, List.set_cons_succ]))
                (refine takeH (i := 37) (v := ?_) rfl (by kernel_rfl) (by kernel_rfl) (by kernel_rfl) (fun _ _ _ h => h) (Or.inl ⟨by rfl, ?_⟩) (by assumption) ?_; rotate_left; (focus ((intro wS hSw); (try dsimp only at hSw); obtain ⟨s0, s1, s2, s3, s4, s5, s6, s7, s8, s9, s10⟩ := hSw; go_simp; (try with_reducible rfl); done)); (try simp only [Act.put, List.setIfInBounds_toArray, List.set_cons_zero, List.set_cons_succ]))
                (refine takeH (i := 38) (v := ?_) rfl (by kernel_rfl) (by kernel_rfl) (by kernel_rfl) (fun _ _ _ h => h) (Or.inl ⟨by rfl, ?_⟩) (by assumption) ?_; rotate_left; (focus ((intro wS hSw); (try dsimp only at hSw); obtain ⟨s0, s1, s2, s3, s4, s5, s6, s7, s8, s9, s10⟩ := hSw; go_simp; (try with_reducible rfl); done)); (try simp only [Act.put, List.setIfInBounds_toArray, List.set_cons_zero, List.set_cons_succ]))
                (refine takeH (i := 39) (v := ?_) rfl (by kernel_rfl) (by kernel_rfl) (by kernel_rfl) (fun _ _ _ h => h) (Or.inl ⟨by rfl, ?_⟩) (by assumption) ?_; rotate_left; (focus ((intro wS hSw); (try dsimp only at hSw); obtain ⟨s0, s1, s2, s3, s4, s5, s6, s7, s8, s9, s10⟩ := hSw; go_simp; (try with_reducible rfl); done)); (try simp only [Act.put, List.setIfInBounds_toArray, List.set_cons_zero, List.set_cons_succ]))
                (refine takeH (i := 40) (v := ?_) rfl (by kernel_rfl) (by kernel_rfl) (by kernel_rfl) (fun _ _ _ h => h) (Or.inl ⟨by rfl, ?_⟩) (by assumption) ?_; rotate_left; (focus ((intro wS hSw); (try dsimp only at hSw); obtain ⟨s0, s1, s2, s3, s4, s5, s6, s7, s8, s9, s10⟩ := hSw; go_simp; (try with_reducible rfl); done)); (try simp only [Act.put, List.setIfInBounds_toArray, List.set_cons_zero, List.set_cons_succ]))
                (refine takeH (i := 41) (v := ?_) rfl (by kernel_rfl) (by kernel_rfl) (by kernel_rfl) (fun _ _ _ h => h) (Or.inl ⟨by rfl, ?_⟩) (by assumption) ?_; rotate_left; (focus ((intro wS hSw); (try dsimp only at hSw); obtain ⟨s0, s1, s2, s3, s4, s5, s6, s7, s8, s9, s10⟩ := hSw; go_simp; (try with_reducible rfl); done)); (try simp only [Act.put, List.setIfInBounds_toArray, List.set_cons_zero, List.set_cons_succ]))
                (refine takeH (i := 43) (v := (.agg #[.int .i64 k, .int .i64 f1, .int .i64 f2, .int .i64 ca, .int .i64 cb])) rfl (by kernel_rfl) (by kernel_rfl) (by kernel_rfl) (fun _ _ _ h => h) (yieldsIf_load_rowE (by rfl) 31 (.tmp 12) rfl G rfl 31 #[.int .i64 k, .int .i64 f1, .int .i64 f2, .int .i64 ca, .int .i64 cb] (0, 0) _ (fun W h => h.2.2.2.2.2.2.1) Try.underlying31 rfl (by kernel_rfl)) (by assumption) ?_; (try simp only [Act.put, List.setIfInBounds_toArray, List.set_cons_zero, List.set_cons_succ]))
                refine aloneH (i := 42) rfl (by kernel_rfl) (fun K hK => ?_)
                rw [if_pos (by rfl)]
                go_simp; ((refine (HF1.out _ (HCd.out.on (below_then (below_then (below_then HB1.out HB2.out) HB3.out) HB4.out))).mono ?_); (rintro e w15 ⟨rfl, hb⟩); have HB5 := Lib.hid hb; clear hb; (try go_simp))
                refine hK.out _ _ (⟨cell_on HB5.out hHeld.1, cell_on HB5.out hHeld.2.1, cell_on HB5.out hHeld.2.2.1, cell_on HB5.out hHeld.2.2.2.1, cell_on HB5.out hHeld.2.2.2.2.1, cell_on HB5.out hHeld.2.2.2.2.2.1, heap_on HB5.out hHeld.2.2.2.2.2.2.1, heap_on HB5.out hHeld.2.2.2.2.2.2.2.1, heap_on HB5.out hHeld.2.2.2.2.2.2.2.2.1, heap_on HB5.out hHeld.2.2.2.2.2.2.2.2.2.1, heap_on HB5.out hHeld.2.2.2.2.2.2.2.2.2.2⟩) (fun hNew => ?_)
                clear hK K hHeld; (have hHeld := hNew); clear hNew; (try simp only [Act.put, List.setIfInBounds_toArray, List.set_cons_zero, List.set_cons_succ])
                refine aloneH (i := 44) rfl (by kernel_rfl) (fun K hK => ?_)
                rw [if_pos (by rfl)]
                go_simp; ((refine (HF2.out _).mono ?_); (rintro e w16 ⟨rfl, hb⟩); have HB6 := Lib.hid hb; clear hb; (try go_simp))
                refine hK.out _ _ (⟨cell_on HB6.out hHeld.1, cell_on HB6.out hHeld.2.1, cell_on HB6.out hHeld.2.2.1, cell_on HB6.out hHeld.2.2.2.1, cell_on HB6.out hHeld.2.2.2.2.1, cell_on HB6.out hHeld.2.2.2.2.2.1, heap_on HB6.out hHeld.2.2.2.2.2.2.1, heap_on HB6.out hHeld.2.2.2.2.2.2.2.1, heap_on HB6.out hHeld.2.2.2.2.2.2.2.2.1, heap_on HB6.out hHeld.2.2.2.2.2.2.2.2.2.1, heap_on HB6.out hHeld.2.2.2.2.2.2.2.2.2.2⟩) (fun hNew => ?_)
                clear hK K hHeld; (have hHeld := hNew); clear hNew; (try simp only [Act.put, List.setIfInBounds_toArray, List.set_cons_zero, List.set_cons_succ])
                (refine takeH (i := 45) (v := ?_) rfl (by kernel_rfl) (by kernel_rfl) (by kernel_rfl) (fun _ _ _ h => h) (Or.inl ⟨by rfl, ?_⟩) (by assumption) ?_; rotate_left; (focus ((intro wS hSw); (try dsimp only at hSw); obtain ⟨s0, s1, s2, s3, s4, s5, s6, s7, s8, s9, s10⟩ := hSw; go_simp; (try with_reducible rfl); done)); (try simp only [Act.put, List.setIfInBounds_toArray, List.set_cons_zero, List.set_cons_succ]))
                (refine takeH (i := 46) (v := ?_) rfl (by kernel_rfl) (by kernel_rfl) (by kernel_rfl) (fun _ _ _ h => h) (Or.inl ⟨by rfl, ?_⟩) (by assumption) ?_; rotate_left; (focus ((intro wS hSw); (try dsimp only at hSw); obtain ⟨s0, s1, s2, s3, s4, s5, s6, s7, s8, s9, s10⟩ := hSw; go_simp; (try with_reducible rfl); done)); (try simp only [Act.put, List.setIfInBounds_toArray, List.set_cons_zero, List.set_cons_succ]))
                (refine takeH (i := 47) (v := ?_) rfl (by kernel_rfl) (by kernel_rfl) (by kernel_rfl) (fun _ _ _ h => h) (Or.inl ⟨by rfl, ?_⟩) (by assumption) ?_; rotate_left; (focus ((intro wS hSw); (try dsimp only at hSw); obtain ⟨s0, s1, s2, s3, s4, s5, s6, s7, s8, s9, s10⟩ := hSw; go_simp; (try with_reducible rfl); done)); (try simp only [Act.put, List.setIfInBounds_toArray, List.set_cons_zero, List.set_cons_succ]))
                (refine takeH (i := 48) (v := ?_) rfl (by kernel_rfl) (by kernel_rfl) (by kernel_rfl) (fun _ _ _ h => h) (Or.inl ⟨by rfl, ?_⟩) (by assumption) ?_; rotate_left; (focus ((intro wS hSw); (try dsimp only at hSw); obtain ⟨s0, s1, s2, s3, s4, s5, s6, s7, s8, s9, s10⟩ := hSw; go_simp; (try with_reducible rfl); done)); (try simp only [Act.put, List.setIfInBounds_toArray, List.set_cons_zero, List.set_cons_succ]))
                (refine takeH (i := 50) (v := ?_) rfl (by kernel_rfl) (by kernel_rfl) (by kernel_rfl) (fun _ _ _ h => h) (Or.inl ⟨by rfl, ?_⟩) (by assumption) ?_; rotate_left; (focus ((intro wS hSw); (try dsimp only at hSw); obtain ⟨s0, s1, s2, s3, s4, s5, s6, s7, s8, s9, s10⟩ := hSw; go_simp; (try with_reducible rfl); done)); (try simp only [Act.put, List.setIfInBounds_toArray, List.set_cons_zero, List.set_cons_succ]))
                refine aloneH (i := 49) rfl (by kernel_rfl) (fun K hK => ?_)
                rw [if_pos (by rfl)]
                go_simp; ((refine (HKd.out _ (HCd.out.on (below_then (below_then (below_then (below_then (below_then HB1.out HB2.out) HB3.out) HB4.out) HB5.out) HB6.out))).mono ?_); (rintro e w17 ⟨rfl, rfl⟩); (try go_simp))
                have HB7 : Hid (Below w16.heap.size w16 w16) := Lib.hid (Below.refl _ _)
                refine hK.out _ _ (hHeld) (fun hNew => ?_)
                clear hK K hHeld; (have hHeld := hNew); clear hNew; (try simp only [Act.put, List.setIfInBounds_toArray, List.set_cons_zero, List.set_cons_succ])
                (refine takeH (i := 51) (v := ?_) rfl (by kernel_rfl) (by kernel_rfl) (by kernel_rfl) (fun _ _ _ h => h) (Or.inl ⟨by rfl, ?_⟩) (by assumption) ?_; rotate_left; (focus ((intro wS hSw); (try dsimp only at hSw); obtain ⟨s0, s1, s2, s3, s4, s5, s6, s7, s8, s9, s10⟩ := hSw; go_simp; (try with_reducible rfl); done)); (try simp only [Act.put, List.setIfInBounds_toArray, List.set_cons_zero, List.set_cons_succ]))
                (refine takeH (i := 52) (v := ?_) rfl (by kernel_rfl) (by kernel_rfl) (by kernel_rfl) (fun _ _ _ h => h) (Or.inl ⟨by rfl, ?_⟩) (by assumption) ?_; rotate_left; (focus ((intro wS hSw); (try dsimp only at hSw); obtain ⟨s0, s1, s2, s3, s4, s5, s6, s7, s8, s9, s10⟩ := hSw; go_simp; (try with_reducible rfl); done)); (try simp only [Act.put, List.setIfInBounds_toArray, List.set_cons_zero, List.set_cons_succ]))
                (refine takeH (i := 53) (v := ?_) rfl (by kernel_rfl) (by kernel_rfl) (by kernel_rfl) (fun _ _ _ h => h) (Or.inl ⟨by rfl, ?_⟩) (by assumption) ?_; rotate_left; (focus ((intro wS hSw); (try dsimp only at hSw); obtain ⟨s0, s1, s2, s3, s4, s5, s6, s7, s8, s9, s10⟩ := hSw; go_simp; (try with_reducible rfl); done)); (try simp only [Act.put, List.setIfInBounds_toArray, List.set_cons_zero, List.set_cons_succ]))
                (refine takeH (i := 54) (v := ?_) rfl (by kernel_rfl) (by kernel_rfl) (by kernel_rfl) (fun _ _ _ h => h) (Or.inl ⟨by rfl, ?_⟩) (by assumption) ?_; rotate_left; (focus ((intro wS hSw); (try dsimp only at hSw); obtain ⟨s0, s1, s2, s3, s4, s5, s6, s7, s8, s9, s10⟩ := hSw; go_simp; (try with_reducible rfl); done)); (try simp only [Act.put, List.setIfInBounds_toArray, List.set_cons_zero, List.set_cons_succ]))
                (refine takeH (i := 56) (v := (.agg #[.int .i64 k, .int .i64 f1, .int .i64 f2, .int .i64 ca, .int .i64 cb])) rfl (by kernel_rfl) (by kernel_rfl) (by kernel_rfl) (fun _ _ _ h => h) (yieldsIf_load_rowE (by rfl) 31 (.tmp 12) rfl G rfl 31 #[.int .i64 k, .int .i64 f1, .int .i64 f2, .int .i64 ca, .int .i64 cb] (0, 0) _ (fun W h => h.2.2.2.2.2.2.1) Try.underlying31 rfl (by kernel_rfl)) (by assumption) ?_; (try simp only [Act.put, List.setIfInBounds_toArray, List.set_cons_zero, List.set_cons_succ]))
                refine aloneH (i := 55) rfl (by kernel_rfl) (fun K hK => ?_)
                rw [if_pos (by rfl)]
                go_simp; ((refine (HFl.out _ (HCd.out.on (below_then (below_then (below_then (below_then (below_then (below_then HB1.out HB2.out) HB3.out) HB4.out) HB5.out) HB6.out) HB7.out))).mono ?_); (rintro e w18 ⟨A1, cp1, rfl, hrow, hb⟩); have HW1 := Lib.hid hrow; have HB8 := Lib.hid hb; clear hb hrow; (try go_simp))
                refine hK.out _ _ (⟨cell_on HB8.out hHeld.1, cell_on HB8.out hHeld.2.1, cell_on HB8.out hHeld.2.2.1, cell_on HB8.out hHeld.2.2.2.1, cell_on HB8.out hHeld.2.2.2.2.1, cell_on HB8.out hHeld.2.2.2.2.2.1, heap_on HB8.out hHeld.2.2.2.2.2.2.1, heap_on HB8.out hHeld.2.2.2.2.2.2.2.1, heap_on HB8.out hHeld.2.2.2.2.2.2.2.2.1, heap_on HB8.out hHeld.2.2.2.2.2.2.2.2.2.1, heap_on HB8.out hHeld.2.2.2.2.2.2.2.2.2.2⟩) (fun hNew => ?_)
                clear hK K hHeld; (have hHeld := hNew); clear hNew; (try simp only [Act.put, List.setIfInBounds_toArray, List.set_cons_zero, List.set_cons_succ])
                refine aloneH (i := 57) rfl (by kernel_rfl) (fun K hK => ?_)
                rw [if_pos (by rfl)]
                go_simp; ((refine (HAl.out _).mono ?_); (rintro e w19 ⟨A2, cp2, rfl, hrow, hb⟩); have HW2 := Lib.hid hrow; have HW1b := Lib.hid (HW1.out.on hb); have HB9 := Lib.hid hb; clear hb hrow; (try go_simp))
                refine hK.out _ _ (⟨cell_on HB9.out hHeld.1, cell_on HB9.out hHeld.2.1, cell_on HB9.out hHeld.2.2.1, cell_on HB9.out hHeld.2.2.2.1, cell_on HB9.out hHeld.2.2.2.2.1, cell_on HB9.out hHeld.2.2.2.2.2.1, heap_on HB9.out hHeld.2.2.2.2.2.2.1, heap_on HB9.out hHeld.2.2.2.2.2.2.2.1, heap_on HB9.out hHeld.2.2.2.2.2.2.2.2.1, heap_on HB9.out hHeld.2.2.2.2.2.2.2.2.2.1, heap_on HB9.out hHeld.2.2.2.2.2.2.2.2.2.2⟩) (fun hNew => ?_)
                clear hK K hHeld; (have hHeld := hNew); clear hNew; (try simp only [Act.put, List.setIfInBounds_toArray, List.set_cons_zero, List.set_cons_succ])
                refine aloneH (i := 58) rfl (by kernel_rfl) (fun K hK => ?_)
                rw [if_pos (by rfl)]
                go_simp; ((refine (same_yes _ A1 A2 cp1 cp2 LL HW1b.out HW2.out HLl.out).mono ?_); (rintro e w110 ⟨rfl, hb⟩); have HB10 := Lib.hid hb; clear hb; (try go_simp))
                refine hK.out _ _ (⟨cell_on HB10.out hHeld.1, cell_on HB10.out hHeld.2.1, cell_on HB10.out hHeld.2.2.1, cell_on HB10.out hHeld.2.2.2.1, cell_on HB10.out hHeld.2.2.2.2.1, cell_on HB10.out hHeld.2.2.2.2.2.1, heap_on HB10.out hHeld.2.2.2.2.2.2.1, heap_on HB10.out hHeld.2.2.2.2.2.2.2.1, heap_on HB10.out hHeld.2.2.2.2.2.2.2.2.1, heap_on HB10.out hHeld.2.2.2.2.2.2.2.2.2.1, heap_on HB10.out hHeld.2.2.2.2.2.2.2.2.2.2⟩) (fun hNew => ?_)
                clear hK K hHeld; (have hHeld := hNew); clear hNew; (try simp only [Act.put, List.setIfInBounds_toArray, List.set_cons_zero, List.set_cons_succ])
                (refine takeH (i := 59) (v := ?_) rfl (by kernel_rfl) (by kernel_rfl) (by kernel_rfl) (fun _ _ _ h => h) (Or.inl ⟨by rfl, ?_⟩) (by assumption) ?_; rotate_left; (focus ((intro wS hSw); (try dsimp only at hSw); obtain ⟨s0, s1, s2, s3, s4, s5, s6, s7, s8, s9, s10⟩ := hSw; go_simp; (try with_reducible rfl); done)); (try simp only [Act.put, List.setIfInBounds_toArray, List.set_cons_zero, List.set_cons_succ]))
                (refine takeH (i := 60) (v := ?_) rfl (by kernel_rfl) (by kernel_rfl) (by kernel_rfl) (fun _ _ _ h => h) (Or.inl ⟨by rfl, ?_⟩) (by assumption) ?_; rotate_left; (focus ((intro wS hSw); (try dsimp only at hSw); obtain ⟨s0, s1, s2, s3, s4, s5, s6, s7, s8, s9, s10⟩ := hSw; go_simp; (try with_reducible rfl); done)); (try simp only [Act.put, List.setIfInBounds_toArray, List.set_cons_zero, List.set_cons_succ]))
                refine wpAnyH_done (by kernel_rfl) ?_ _
                have b1 := (below_then (below_then (below_then (below_then (below_then (below_then (below_then (below_then (below_then HB1.out HB2.out) HB3.out) HB4.out) HB5.out) HB6.out) HB7.out) HB8.out) HB9.out) HB10.out)
                have HIz : Hid (PlI w G k F a0 ak ay ai Q (j + 1) c w110) := Lib.hid ⟨HCd.out.on b1, HOk1.out, HKFz.out.1, HKFz.out.2.1, HKFz.out.2.2, by rw [HRow1.out]; exact heap_on b1 HGd.out, heap_on b1 HAd.out, below_any HBd.out (Nat.le_refl _) b1, HPgz.out, HPaz.out, HGa.out⟩
                clear b1 hHeld HBd HCd HGd HAd HXd
                go_wp2
                go_roundw
                case rel => exact ⟨j + 1, Q, _, HJ.out.2, by go_num, rfl, HIz⟩
                case measure => rw [hw]; exact roundsLeft_next _ _ HJ.out.2
    · have hge : ¬ (j : Int) < (L.length : Int) := by omega
      have HBr := Lib.hid HI.out.low
      clear HI hj hlt HR
      go_wp2_with (go_at_call 7; refine (HLv.out _).mono ?_; rintro e w3 ⟨rfl, hb3⟩; have HB3 := Lib.hid (below_any HBr.out (Nat.le_refl _) hb3); clear hb3)
      go_ret
      exact ⟨rfl, HB3.out⟩
end Go.Proofs.Ytdacpiegfobhbaa
