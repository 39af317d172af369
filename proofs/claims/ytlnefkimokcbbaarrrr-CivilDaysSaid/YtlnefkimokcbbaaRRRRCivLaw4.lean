/- The statement on periods that follow one another. -/
import Derived.Test.YtlnefkimokcbbaaRRRRCivLaw3
namespace Go.Proofs.YtlnefkimokcbbaaRRRR.Civ

theorem many_each' {k y i : Int} (h : good k y i = true) : k = 1 ∧ many k = 12 ∧ each k = 1 ∨ k = 2 ∧ many k = 4 ∧ each k = 3 ∨ k = 3 ∧ many k = 1 ∧ each k = 12 :=
  many_each (by have := good_iff.1 h; omega)
theorem first_valid {k y i : Int} (h : good k y i = true) : valid y ((i - 1) * each k + 1) 1 ∧ ((i - 1) * each k + 1 - 1) / each k + 1 = i := by
  obtain ⟨h1, h2, h3, h4⟩ := good_iff.1 h
  rcases many_each' h with ⟨_, e1, e2⟩ | ⟨_, e1, e2⟩ | ⟨_, e1, e2⟩
  all_goals
    rw [e1] at h4
    rw [e2]
    refine ⟨⟨?_, by omega, ?_⟩, by omega⟩
    all_goals
      have := len_lo h1 h2 (m := (i - 1) * each k + 1) (by rw [e2]; omega) (by rw [e2]; omega)
      rw [e2] at this
      omega
theorem last_valid {k y i : Int} (h : good k y i = true) : valid y (i * each k) (len y (i * each k)) ∧ (i * each k - 1) / each k + 1 = i := by
  obtain ⟨h1, h2, h3, h4⟩ := good_iff.1 h
  have hl : 28 ≤ len y (i * each k) := by
    rcases many_each' h with ⟨_, e1, e2⟩ | ⟨_, e1, e2⟩ | ⟨_, e1, e2⟩
    all_goals
      rw [e1] at h4
      exact len_lo h1 h2 (by rw [e2]; omega) (by rw [e2]; omega)
  refine ⟨⟨by omega, by omega, by omega⟩, ?_⟩
  rcases many_each' h with ⟨_, e1, e2⟩ | ⟨_, e1, e2⟩ | ⟨_, e1, e2⟩
  all_goals
    rw [e1] at h4
    rw [e2]
    omega
theorem first_le_last {k y i : Int} (h : good k y i = true) : first k y i ≤ last k y i ∧ 0 ≤ first k y i ∧ last k y i ≤ 2932896 := by
  have w := within_of (first_valid h).1 (by rcases many_each' h with ⟨_, e1, _⟩ | ⟨_, e1, _⟩ | ⟨_, e1, _⟩ <;> omega : ¬ many k = 0)
  rw [(first_valid h).2] at w
  have w2 := w.2
  simp only [within, w.1, Bool.true_and, Bool.and_eq_true, decide_eq_true_eq] at w2
  have a := number_bd (first_valid h).1
  have b := number_bd (last_valid h).1
  exact ⟨Int.le_trans w2.1 w2.2, a.1, b.2⟩
/-- a period, and the one behind it -/
theorem next_good {k y i : Int} (h : good k y i = true) (hn : 1 < 8030 * many k - place k y i) :
    good k (1970 + (place k y i + 1) / many k) ((place k y i + 1) % many k + 1) = true ∧
    place k (1970 + (place k y i + 1) / many k) ((place k y i + 1) % many k + 1) = place k y i + 1 ∧
    1970 + place k y i / many k = y ∧ place k y i % many k + 1 = i := by
  obtain ⟨h1, h2, h3, h4⟩ := good_iff.1 h
  rw [good_iff]
  unfold place at *
  rcases many_each' h with ⟨_, e1, e2⟩ | ⟨_, e1, e2⟩ | ⟨_, e1, e2⟩ <;> rw [e1] at hn h4 ⊢ <;> omega
theorem next_first {k y i : Int} (h : good k y i = true) :
    first k (1970 + (place k y i + 1) / many k) ((place k y i + 1) % many k + 1) = last k y i + 1 := by
  obtain ⟨h1, h2, h3, h4⟩ := good_iff.1 h
  rw [last_eq h, first_eq]
  by_cases hi : i = many k
  · have hy : (place k y i + 1) / many k = y - 1970 + 1 ∧ (place k y i + 1) % many k = 0 := by
      unfold place
      rcases many_each' h with ⟨_, e1, e2⟩ | ⟨_, e1, e2⟩ | ⟨_, e1, e2⟩ <;> rw [e1] at hi h4 ⊢ <;> omega
    rw [hy.1, hy.2]
    have e : (i * each k).toNat = 12 := by
      rcases many_each' h with ⟨_, e1, e2⟩ | ⟨_, e1, e2⟩ | ⟨_, e1, e2⟩ <;> rw [e2] <;> rw [e1] at hi <;> omega
    rw [e, months_12 h1 h2, show (1970 + (y - 1970 + 1) - 1970).toNat = (y - 1970).toNat + 1 by omega, show ((0 + 1 - 1) * each k).toNat = 0 by simp]
    have : years ((y - 1970).toNat + 1) = years (y - 1970).toNat + days (1970 + ((y - 1970).toNat : Int)) := rfl
    rw [this, show 1970 + ((y - 1970).toNat : Int) = y by omega]
    simp [months]
  · have hy : (place k y i + 1) / many k = y - 1970 ∧ (place k y i + 1) % many k = i := by
      unfold place
      rcases many_each' h with ⟨_, e1, e2⟩ | ⟨_, e1, e2⟩ | ⟨_, e1, e2⟩ <;> rw [e1] at hi h4 ⊢ <;> omega
    rw [hy.1, hy.2, show 1970 + (y - 1970) = y by omega, show i + 1 - 1 = i by omega]
    omega
theorem next_none {k y i : Int} (h : good k y i = true) (hn : ¬ 1 < 8030 * many k - place k y i) : last k y i = 2932896 := by
  obtain ⟨h1, h2, h3, h4⟩ := good_iff.1 h
  have hy : y = 9999 ∧ i = many k := by
    unfold place at hn
    rcases many_each' h with ⟨_, e1, e2⟩ | ⟨_, e1, e2⟩ | ⟨_, e1, e2⟩ <;> rw [e1] at hn h4 ⊢ <;> omega
  rw [last_eq h, hy.1]
  have e : (i * each k).toNat = 12 := by
    rw [hy.2]
    rcases many_each' h with ⟨_, e1, e2⟩ | ⟨_, e1, e2⟩ | ⟨_, e1, e2⟩ <;> rw [e1, e2] <;> rfl
  rw [e, months_12 (by omega) (by omega)]
  have : years 8030 = years 8029 + days (1970 + ((8029 : Nat) : Int)) := rfl
  rw [years_end] at this
  have e2 : (9999 - 1970 : Int).toNat = 8029 := rfl
  rw [e2]
  have e3 : 1970 + ((8029 : Nat) : Int) = 9999 := rfl
  rw [e3] at this
  omega
end Go.Proofs.YtlnefkimokcbbaaRRRR.Civ

namespace Go.Proofs.YtlnefkimokcbbaaRRRR
open Go.RowKit

set_option maxHeartbeats 4000000 in
theorem civilChain_bad (k y i : Int) (w : World) (h : Civ.good k y i = false) : Calls Try.prog 7 #[.agg #[.int .i64 k, .int .i64 y, .int .i64 i]] w fun e w' => e = .returned (.bool true) ∧ Below w.heap.size w w' := by
  have G : Hid (∀ w, Calls Try.prog 23 #[.agg #[.int .i64 k, .int .i64 y, .int .i64 i]] w fun e w' => e = .returned (.bool false) ∧ Below w.heap.size w w') := Lib.hid (fun w => by have := code_good k y i w; rw [h] at this; exact this)
  have RG := Lib.hid h
  clear h
  go_enter Try.func7, Try.ntmps7
  go_wp2_with (first | (go_at_call 23; ((with_reducible refine (G.out _).mono ?_); rintro e w1 ⟨rfl, hb⟩; obtain ⟨hc, hf⟩ := bcell hb; have hz : w.heap.size < w1.heap.size := (by have := hb.size; (try simp at this); omega))) | (go_at_call 24; refine (ref_good_at RG.out _).mono ?_; rintro e w2 ⟨rfl, hb2⟩) | (go_at_call 14; refine (lives_any _).mono ?_; rintro e w3 ⟨rfl, hb3⟩))
  go_ret
  exact ⟨rfl, below_tr (below_tr (below_two hb) hb2 (Nat.le_refl _)) hb3 (Nat.le_refl _)⟩

set_option maxRecDepth 100000 in
set_option maxHeartbeats 8000000 in
theorem civilChain_end (k y i a b : Int) (w : World) (hab : a ≤ b) (hb : b = 2932896)
    (G : Hid (∀ w, Calls Try.prog 23 #[.agg #[.int .i64 k, .int .i64 y, .int .i64 i]] w fun e w' => e = .returned (.bool true) ∧ Below w.heap.size w w')) (F1 : Hid (∀ w, Calls Try.prog 17 #[.agg #[.int .i64 k, .int .i64 y, .int .i64 i]] w fun e w' => e = .returned (.tuple #[.int .i64 a, .int .i64 0]) ∧ Below w.heap.size w w')) (L1 : Hid (∀ w, Calls Try.prog 19 #[.agg #[.int .i64 k, .int .i64 y, .int .i64 i]] w fun e w' => e = .returned (.tuple #[.int .i64 b, .int .i64 0]) ∧ Below w.heap.size w w')) (O1 : Hid (∀ w, Calls Try.prog 27 #[.int .i64 a, .int .i64 k] w fun e w' => e = .returned (.tuple #[.agg #[.int .i64 k, .int .i64 y, .int .i64 i], .int .i64 0]) ∧ Below w.heap.size w w')) (O2 : Hid (∀ w, Calls Try.prog 27 #[.int .i64 b, .int .i64 k] w fun e w' => e = .returned (.tuple #[.agg #[.int .i64 k, .int .i64 y, .int .i64 i], .int .i64 0]) ∧ Below w.heap.size w w')) (N : Hid (∀ w, Calls Try.prog 21 #[.agg #[.int .i64 k, .int .i64 y, .int .i64 i], .int .i64 1] w fun e w' => e = .returned (.tuple #[.agg #[.int .i64 0, .int .i64 0, .int .i64 0], .int .i64 30]) ∧ Below w.heap.size w w')) :
    Calls Try.prog 7 #[.agg #[.int .i64 k, .int .i64 y, .int .i64 i]] w fun e w' => e = .returned (.bool true) ∧ Below w.heap.size w w' := by
  subst hb
  go_enter Try.func7, Try.ntmps7
  go_wp2_with (first | (go_at_call 23; ((with_reducible refine (G.out _).mono ?_); rintro e wg ⟨rfl, hbwg⟩; obtain ⟨hcwg, hfwg⟩ := bcell hbwg; have zwgw : w.heap.size < wg.heap.size := (by have := hbwg.size; (try simp at this); omega))) | (go_at_call 17; ((with_reducible refine (F1.out _).mono ?_); rintro e wf ⟨rfl, hbwf⟩; obtain ⟨hcwf, hfwf⟩ := bcell hbwf; have zwfw : w.heap.size < wf.heap.size := (by have := hbwf.size; (try simp at this); omega))) | (go_at_call 19; ((with_reducible refine (L1.out _).mono ?_); rintro e wl ⟨rfl, hbwl⟩; obtain ⟨hcwl, hfwl⟩ := bcell hbwl; have zwlw : w.heap.size < wl.heap.size := (by have := hbwl.size; (try simp at this); omega))) | (go_at_call 27; ((with_reducible refine (O1.out _).mono ?_); rintro e wo ⟨rfl, hbwo⟩; obtain ⟨hcwo, hfwo⟩ := bcell hbwo; have zwow : w.heap.size < wo.heap.size := (by have := hbwo.size; (try simp at this); omega))) | (go_at_call 27; ((with_reducible refine (O2.out _).mono ?_); rintro e wp ⟨rfl, hbwp⟩; obtain ⟨hcwp, hfwp⟩ := bcell hbwp; have zwpw : w.heap.size < wp.heap.size := (by have := hbwp.size; (try simp at this); omega); have zwpwo : wo.heap.size < wp.heap.size := (by have := hbwp.size; (try simp at this); omega))) | (go_at_call 21; ((with_reducible refine (N.out _).mono ?_); rintro e wn ⟨rfl, hbwn⟩; obtain ⟨hcwn, hfwn⟩ := bcell hbwn; have zwnw : w.heap.size < wn.heap.size := (by have := hbwn.size; (try simp at this); omega); have zwnwo : wo.heap.size < wn.heap.size := (by have := hbwn.size; (try simp at this); omega); have zwnwp : wp.heap.size < wn.heap.size := (by have := hbwn.size; (try simp at this); omega))) | (go_at_call 14; refine (lives_any _).mono ?_; rintro e wz ⟨rfl, hbz⟩))
  go_ret
  have o1 := ba wo (.cells #[.int .i64 k, .int .i64 y, .int .i64 i] 36)
  have o2 := ba wp (.cells #[.int .i64 k, .int .i64 y, .int .i64 i] 36)
  have o3 := ba wn (.cells #[.int .i64 0, .int .i64 0, .int .i64 0] 36)
  have l := Nat.le_refl w.heap.size
  exact ⟨rfl, below_tr (below_tr (below_tr (below_tr (below_tr (below_tr (below_tr (below_tr (below_tr (below_two hbwg) hbwf l) hbwl l) hbwo l) o1 l) hbwp l) o2 l) hbwn l) o3 l) hbz l⟩

set_option maxRecDepth 100000 in
set_option maxHeartbeats 8000000 in
theorem civilChain_next (k y i y' i' a b : Int) (w : World) (hab : a ≤ b) (hlo : 0 ≤ b) (hhi : b ≤ 2932896)
    (G : Hid (∀ w, Calls Try.prog 23 #[.agg #[.int .i64 k, .int .i64 y, .int .i64 i]] w fun e w' => e = .returned (.bool true) ∧ Below w.heap.size w w')) (F1 : Hid (∀ w, Calls Try.prog 17 #[.agg #[.int .i64 k, .int .i64 y, .int .i64 i]] w fun e w' => e = .returned (.tuple #[.int .i64 a, .int .i64 0]) ∧ Below w.heap.size w w')) (L1 : Hid (∀ w, Calls Try.prog 19 #[.agg #[.int .i64 k, .int .i64 y, .int .i64 i]] w fun e w' => e = .returned (.tuple #[.int .i64 b, .int .i64 0]) ∧ Below w.heap.size w w')) (O1 : Hid (∀ w, Calls Try.prog 27 #[.int .i64 a, .int .i64 k] w fun e w' => e = .returned (.tuple #[.agg #[.int .i64 k, .int .i64 y, .int .i64 i], .int .i64 0]) ∧ Below w.heap.size w w')) (O2 : Hid (∀ w, Calls Try.prog 27 #[.int .i64 b, .int .i64 k] w fun e w' => e = .returned (.tuple #[.agg #[.int .i64 k, .int .i64 y, .int .i64 i], .int .i64 0]) ∧ Below w.heap.size w w')) (N : Hid (∀ w, Calls Try.prog 21 #[.agg #[.int .i64 k, .int .i64 y, .int .i64 i], .int .i64 1] w fun e w' => e = .returned (.tuple #[.agg #[.int .i64 k, .int .i64 y', .int .i64 i'], .int .i64 0]) ∧ Below w.heap.size w w')) (F2 : Hid (∀ w, Calls Try.prog 17 #[.agg #[.int .i64 k, .int .i64 y', .int .i64 i']] w fun e w' => e = .returned (.tuple #[.int .i64 (b + 1), .int .i64 0]) ∧ Below w.heap.size w w')) (B : Hid (∀ w, Calls Try.prog 21 #[.agg #[.int .i64 k, .int .i64 y', .int .i64 i'], .int .i64 (-1)] w fun e w' => e = .returned (.tuple #[.agg #[.int .i64 k, .int .i64 y, .int .i64 i], .int .i64 0]) ∧ Below w.heap.size w w')) (C : Hid (∀ w, Calls Try.prog 29 #[.agg #[.int .i64 k, .int .i64 y, .int .i64 i], .agg #[.int .i64 k, .int .i64 y', .int .i64 i']] w fun e w' => e = .returned (.int .i64 (-1)) ∧ Below w.heap.size w w')) :
    Calls Try.prog 7 #[.agg #[.int .i64 k, .int .i64 y, .int .i64 i]] w fun e w' => e = .returned (.bool true) ∧ Below w.heap.size w w' := by
  go_enter Try.func7, Try.ntmps7
  go_wp2_with (first | (go_at_call 23; ((with_reducible refine (G.out _).mono ?_); rintro e wg ⟨rfl, hbwg⟩; obtain ⟨hcwg, hfwg⟩ := bcell hbwg; have zwgw : w.heap.size < wg.heap.size := (by have := hbwg.size; (try simp at this); omega))) | (go_at_call 17; ((with_reducible refine (F1.out _).mono ?_); rintro e wf ⟨rfl, hbwf⟩; obtain ⟨hcwf, hfwf⟩ := bcell hbwf; have zwfw : w.heap.size < wf.heap.size := (by have := hbwf.size; (try simp at this); omega))) | (go_at_call 19; ((with_reducible refine (L1.out _).mono ?_); rintro e wl ⟨rfl, hbwl⟩; obtain ⟨hcwl, hfwl⟩ := bcell hbwl; have zwlw : w.heap.size < wl.heap.size := (by have := hbwl.size; (try simp at this); omega))) | (go_at_call 27; ((with_reducible refine (O1.out _).mono ?_); rintro e wo ⟨rfl, hbwo⟩; obtain ⟨hcwo, hfwo⟩ := bcell hbwo; have zwow : w.heap.size < wo.heap.size := (by have := hbwo.size; (try simp at this); omega))) | (go_at_call 27; ((with_reducible refine (O2.out _).mono ?_); rintro e wp ⟨rfl, hbwp⟩; obtain ⟨hcwp, hfwp⟩ := bcell hbwp; have zwpw : w.heap.size < wp.heap.size := (by have := hbwp.size; (try simp at this); omega); have zwpwo : wo.heap.size < wp.heap.size := (by have := hbwp.size; (try simp at this); omega))) | (go_at_call 21; ((with_reducible refine (N.out _).mono ?_); rintro e wn ⟨rfl, hbwn⟩; obtain ⟨hcwn, hfwn⟩ := bcell hbwn; have zwnw : w.heap.size < wn.heap.size := (by have := hbwn.size; (try simp at this); omega); have zwnwo : wo.heap.size < wn.heap.size := (by have := hbwn.size; (try simp at this); omega); have zwnwp : wp.heap.size < wn.heap.size := (by have := hbwn.size; (try simp at this); omega))) | (go_at_call 17; ((with_reducible refine (F2.out _).mono ?_); rintro e wh ⟨rfl, hbwh⟩; obtain ⟨hcwh, hfwh⟩ := bcell hbwh; have zwhw : w.heap.size < wh.heap.size := (by have := hbwh.size; (try simp at this); omega); have zwhwo : wo.heap.size < wh.heap.size := (by have := hbwh.size; (try simp at this); omega); have zwhwp : wp.heap.size < wh.heap.size := (by have := hbwh.size; (try simp at this); omega); have zwhwn : wn.heap.size < wh.heap.size := (by have := hbwh.size; (try simp at this); omega))) | (go_at_call 21; ((with_reducible refine (B.out _).mono ?_); rintro e wb ⟨rfl, hbwb⟩; obtain ⟨hcwb, hfwb⟩ := bcell hbwb; have zwbw : w.heap.size < wb.heap.size := (by have := hbwb.size; (try simp at this); omega); have zwbwo : wo.heap.size < wb.heap.size := (by have := hbwb.size; (try simp at this); omega); have zwbwp : wp.heap.size < wb.heap.size := (by have := hbwb.size; (try simp at this); omega); have zwbwn : wn.heap.size < wb.heap.size := (by have := hbwb.size; (try simp at this); omega))) | (go_at_call 29; ((with_reducible refine (C.out _).mono ?_); rintro e wc ⟨rfl, hbwc⟩; obtain ⟨hcwc, hfwc⟩ := bcell hbwc; have zwcw : w.heap.size < wc.heap.size := (by have := hbwc.size; (try simp at this); omega); have zwcwo : wo.heap.size < wc.heap.size := (by have := hbwc.size; (try simp at this); omega); have zwcwp : wp.heap.size < wc.heap.size := (by have := hbwc.size; (try simp at this); omega); have zwcwn : wn.heap.size < wc.heap.size := (by have := hbwc.size; (try simp at this); omega); have zwcwb : wb.heap.size < wc.heap.size := (by have := hbwc.size; (try simp at this); omega))) | (go_at_call 14; refine (lives_any _).mono ?_; rintro e wz ⟨rfl, hbz⟩))
  go_ret
  have o1 := ba wo (.cells #[.int .i64 k, .int .i64 y, .int .i64 i] 36)
  have o2 := ba wp (.cells #[.int .i64 k, .int .i64 y, .int .i64 i] 36)
  have o3 := ba wn (.cells #[.int .i64 k, .int .i64 y', .int .i64 i'] 36)
  have o4 := ba wb (.cells #[.int .i64 k, .int .i64 y, .int .i64 i] 36)
  have l := Nat.le_refl w.heap.size
  exact ⟨rfl, below_tr (below_tr (below_tr (below_tr (below_tr (below_tr (below_tr (below_tr (below_tr (below_tr (below_tr (below_tr (below_tr (below_two hbwg) hbwf l) hbwl l) hbwo l) o1 l) hbwp l) o2 l) hbwn l) o3 l) hbwh l) hbwb l) o4 l) hbwc l) hbz l⟩

theorem civilChain_any (k y i : Int) (w : World) : Calls Try.prog 7 #[.agg #[.int .i64 k, .int .i64 y, .int .i64 i]] w fun e w' => e = .returned (.bool true) ∧ Below w.heap.size w w' := by
  by_cases h : Civ.good k y i = true
  · have hm : ¬ Civ.many k = 0 := by rcases Civ.many_each' h with ⟨_, e1, _⟩ | ⟨_, e1, _⟩ | ⟨_, e1, _⟩ <;> omega
    have hl := Civ.first_le_last h
    have vf := Civ.first_valid h
    have vl := Civ.last_valid h
    have hpl : 0 ≤ Civ.place k y i := by
      obtain ⟨g1, g2, g3, g4⟩ := Civ.good_iff.1 h
      unfold Civ.place
      rcases Civ.many_each' h with ⟨_, e1, _⟩ | ⟨_, e1, _⟩ | ⟨_, e1, _⟩ <;> rw [e1] <;> omega
    have G : Hid (∀ w, Calls Try.prog 23 #[.agg #[.int .i64 k, .int .i64 y, .int .i64 i]] w fun e w' => e = .returned (.bool true) ∧ Below w.heap.size w w') := Lib.hid (fun w => by have := code_good k y i w; rw [h] at this; exact this)
    have F1 : ∀ w, Calls Try.prog 17 #[.agg #[.int .i64 k, .int .i64 y, .int .i64 i]] w fun e w' => e = .returned (.tuple #[.int .i64 (Civ.first k y i), .int .i64 0]) ∧ Below w.heap.size w w' := fun w => by have := code_first k y i w; rw [show firstN k y i = Civ.first k y i by unfold firstN; rw [if_pos h], show goodE k y i = 0 by unfold goodE; rw [if_pos h]] at this; exact this
    have L1 : ∀ w, Calls Try.prog 19 #[.agg #[.int .i64 k, .int .i64 y, .int .i64 i]] w fun e w' => e = .returned (.tuple #[.int .i64 (Civ.last k y i), .int .i64 0]) ∧ Below w.heap.size w w' := fun w => by have := code_last k y i w; rw [show lastN k y i = Civ.last k y i by unfold lastN; rw [if_pos h], show goodE k y i = 0 by unfold goodE; rw [if_pos h]] at this; exact this
    have O1 : ∀ w, Calls Try.prog 27 #[.int .i64 (Civ.first k y i), .int .i64 k] w fun e w' => e = .returned (.tuple #[.agg #[.int .i64 k, .int .i64 y, .int .i64 i], .int .i64 0]) ∧ Below w.heap.size w w' := fun w => by have := code_of_ok _ _ _ k w vf.1 hm; rw [vf.2] at this; exact this
    have O2 : ∀ w, Calls Try.prog 27 #[.int .i64 (Civ.last k y i), .int .i64 k] w fun e w' => e = .returned (.tuple #[.agg #[.int .i64 k, .int .i64 y, .int .i64 i], .int .i64 0]) ∧ Below w.heap.size w w' := fun w => by have := code_of_ok _ _ _ k w vl.1 hm; rw [vl.2] at this; exact this
    by_cases hn : 1 < 8030 * Civ.many k - Civ.place k y i
    · obtain ⟨g1, g2, g3, g4⟩ := Civ.next_good h hn
      have gf := Civ.next_first h
      have hcond : Civ.good k y i = true ∧ - Civ.place k y i ≤ 1 ∧ 1 < 8030 * Civ.many k - Civ.place k y i := ⟨h, by omega, hn⟩
      have hcond2 : Civ.good k (1970 + (Civ.place k y i + 1) / Civ.many k) ((Civ.place k y i + 1) % Civ.many k + 1) = true ∧ - Civ.place k (1970 + (Civ.place k y i + 1) / Civ.many k) ((Civ.place k y i + 1) % Civ.many k + 1) ≤ -1 ∧ -1 < 8030 * Civ.many k - Civ.place k (1970 + (Civ.place k y i + 1) / Civ.many k) ((Civ.place k y i + 1) % Civ.many k + 1) := ⟨g1, by rw [g2]; omega, by rw [g2]; omega⟩
      have N : ∀ w, Calls Try.prog 21 #[.agg #[.int .i64 k, .int .i64 y, .int .i64 i], .int .i64 1] w fun e w' => e = .returned (.tuple #[.agg #[.int .i64 k, .int .i64 (1970 + (Civ.place k y i + 1) / Civ.many k), .int .i64 ((Civ.place k y i + 1) % Civ.many k + 1)], .int .i64 0]) ∧ Below w.heap.size w w' := fun w => by
        have := code_next k y i 1 w
        unfold nextK nextY nextI nextE at this
        rw [if_pos hcond, if_pos hcond, if_pos hcond, if_pos hcond] at this
        exact this
      generalize hy' : 1970 + (Civ.place k y i + 1) / Civ.many k = y' at *
      generalize hi' : (Civ.place k y i + 1) % Civ.many k + 1 = i' at *
      have F2 : ∀ w, Calls Try.prog 17 #[.agg #[.int .i64 k, .int .i64 y', .int .i64 i']] w fun e w' => e = .returned (.tuple #[.int .i64 (Civ.last k y i + 1), .int .i64 0]) ∧ Below w.heap.size w w' := fun w => by have := code_first k y' i' w; rw [show firstN k y' i' = Civ.last k y i + 1 by unfold firstN; rw [if_pos g1, gf], show goodE k y' i' = 0 by unfold goodE; rw [if_pos g1]] at this; exact this
      have B : ∀ w, Calls Try.prog 21 #[.agg #[.int .i64 k, .int .i64 y', .int .i64 i'], .int .i64 (-1)] w fun e w' => e = .returned (.tuple #[.agg #[.int .i64 k, .int .i64 y, .int .i64 i], .int .i64 0]) ∧ Below w.heap.size w w' := fun w => by
        have := code_next k y' i' (-1) w
        unfold nextK nextY nextI nextE at this
        rw [if_pos hcond2, if_pos hcond2, if_pos hcond2, if_pos hcond2, g2, show Civ.place k y i + 1 + -1 = Civ.place k y i by omega, g3, g4] at this
        exact this
      have C : ∀ w, Calls Try.prog 29 #[.agg #[.int .i64 k, .int .i64 y, .int .i64 i], .agg #[.int .i64 k, .int .i64 y', .int .i64 i']] w fun e w' => e = .returned (.int .i64 (-1)) ∧ Below w.heap.size w w' := fun w => by
        have := code_cmp k y i k y' i' w
        rw [show Civ.cmp k y i k y' i' = -1 by unfold Civ.cmp; rw [if_pos ⟨h, g1⟩, gf, if_neg (by omega), if_pos (by omega)]] at this
        exact this
      exact civilChain_next k y i y' i' _ _ w hl.1 (by omega) hl.2.2 G F1 L1 O1 O2 N F2 B C
    · have hcond : ¬ (Civ.good k y i = true ∧ - Civ.place k y i ≤ 1 ∧ 1 < 8030 * Civ.many k - Civ.place k y i) := fun x => hn x.2.2
      refine civilChain_end k y i _ _ w hl.1 (Civ.next_none h hn) G F1 L1 O1 O2 (fun w => ?_)
      have := code_next k y i 1 w
      unfold nextK nextY nextI nextE at this
      rw [if_neg hcond, if_neg hcond, if_neg hcond, if_neg hcond, if_pos h] at this
      exact this
  · exact civilChain_bad k y i w (by simpa using h)
end Go.Proofs.YtlnefkimokcbbaaRRRR
