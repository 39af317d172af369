/- What the document's own answers say of a day in a stretch of time, of two of them, and of the next ones. -/
import Derived.Test.YtdacpiegfobhbaaCivPer
import Derived.Handy
namespace Go.Proofs.Ytdacpiegfobhbaa
open Go.RowKit
set_option maxRecDepth 100000

set_option maxHeartbeats 400000 in
theorem ref_within (k y i n : Int) (w : World) :
    Calls Try.prog 26 #[.agg #[.int .i64 k, .int .i64 y, .int .i64 i], .int .i64 n] w fun e w' => e = .returned (.bool (Civ.within k y i n)) ∧ Below w.heap.size w w' := by
  by_cases h : Civ.good k y i = true
  · have HG := Lib.hid h
    have HS : Hid (Civ.within k y i n = (decide (Civ.first k y i ≤ n) && decide (n ≤ Civ.last k y i))) := Lib.hid (by simp [Civ.within, h])
    clear h
    by_cases h1 : Civ.first k y i ≤ n
    all_goals
      go_enter Try.func26, Try.ntmps26
      go_wp2_with (first | (go_at_call 41; refine (ref_first_ok _ _ _ _ HG.out).mono ?_; rintro e w1 ⟨rfl, hb⟩; obtain ⟨hc, hf⟩ := bcell hb; have hz : w.heap.size < w1.heap.size := by have := hb.size; simp at this; omega) | (go_at_call 42; refine (ref_last_ok _ _ _ _ HG.out).mono ?_; rintro e w2 ⟨rfl, hb2⟩))
      go_ret
      exact ⟨ret_bool (by rw [HS.out]; first | (simp [h1]; done) | (rw [Bool.eq_iff_iff]; simp; omega)), below_two (hb.trans (hb2.mono (by have := hb.size; simpa using this)))⟩
  · have HG : Hid (Civ.good k y i = false) := Lib.hid (by simpa using h)
    have HS : Hid (Civ.within k y i n = false) := Lib.hid (by simp [Civ.within, h])
    clear h
    go_enter Try.func26, Try.ntmps26
    go_wp2_with (first | (go_at_call 41; refine (ref_first_no _ _ _ _ HG.out).mono ?_; rintro e w1 ⟨rfl, hb⟩; obtain ⟨hc, hf⟩ := bcell hb; have hz : w.heap.size < w1.heap.size := by have := hb.size; simp at this; omega) | (go_at_call 42; refine (ref_last_no _ _ _ _ HG.out).mono ?_; rintro e w2 ⟨rfl, hb2⟩))
    go_ret
    exact ⟨ret_bool (by rw [HS.out]), below_two (hb.trans (hb2.mono (by have := hb.size; simpa using this)))⟩

theorem below_four {k y i k' y' i' : Value} {t t' : TypeId} {w w1 w2 : World} (hb : Below ((w.alloc (.cells #[k, y, i] t)).alloc (.cells #[k', y', i'] t')).heap.size ((w.alloc (.cells #[k, y, i] t)).alloc (.cells #[k', y', i'] t')) w1) (hb2 : Below w1.heap.size w1 w2) : Below w.heap.size w w2 :=
  (((Below.refl _ _).alloc (Nat.le_refl _) _).alloc (by simp) _).trans ((hb.trans (hb2.mono hb.size)).mono (by simp; omega))

/-- the first and the last day's numbers, with the errors' numbers, at any period -/
def firstN (k y i : Int) : Int := if Civ.good k y i then Civ.first k y i else 0
def lastN (k y i : Int) : Int := if Civ.good k y i then Civ.last k y i else 0
def goodE (k y i : Int) : Int := if Civ.good k y i then 0 else 2
theorem ref_first (k y i : Int) (w : World) :
    Calls Try.prog 41 #[.agg #[.int .i64 k, .int .i64 y, .int .i64 i]] w fun e w' => e = .returned (.tuple #[.int .i64 (firstN k y i), .int .i64 (goodE k y i)]) ∧ Below w.heap.size w w' := by
  unfold firstN goodE
  by_cases h : Civ.good k y i = true
  · rw [if_pos h, if_pos h]; exact ref_first_ok k y i w h
  · rw [if_neg h, if_neg h]; exact ref_first_no k y i w (by simpa using h)
theorem ref_last (k y i : Int) (w : World) :
    Calls Try.prog 42 #[.agg #[.int .i64 k, .int .i64 y, .int .i64 i]] w fun e w' => e = .returned (.tuple #[.int .i64 (lastN k y i), .int .i64 (goodE k y i)]) ∧ Below w.heap.size w w' := by
  unfold lastN goodE
  by_cases h : Civ.good k y i = true
  · rw [if_pos h, if_pos h]; exact ref_last_ok k y i w h
  · rw [if_neg h, if_neg h]; exact ref_last_no k y i w (by simpa using h)

theorem bne_t {a b : Int} (h : ¬ a = b) : (a != b) = true := by simp [h]
theorem bne_f {a b : Int} (h : a = b) : (a != b) = false := by simp [h]

set_option maxHeartbeats 1000000 in
theorem ref_cmp_no (k y i k' y' i' : Int) (w : World) (h : ¬ (Civ.good k y i = true ∧ Civ.good k' y' i' = true)) :
    Calls Try.prog 27 #[.agg #[.int .i64 k, .int .i64 y, .int .i64 i], .agg #[.int .i64 k', .int .i64 y', .int .i64 i']] w fun e w' => e = .returned (.int .i64 (Civ.cmp k y i k' y' i')) ∧ Below w.heap.size w w' := by
  have HC : Hid (Civ.cmp k y i k' y' i' = 0) := Lib.hid (by unfold Civ.cmp; rw [if_neg h])
  by_cases ha : Civ.good k y i = true
  · have h1 : (goodE k y i != 0) = false := bne_f (by unfold goodE; rw [if_pos ha])
    have h2 : (goodE k' y' i' != 0) = true := bne_t (by unfold goodE; rw [if_neg (by simpa [ha] using h)]; decide)
    clear h ha
    go_enter Try.func27, Try.ntmps27
    go_wp2_with (go_at_call 41; refine (ref_first _ _ _ _).mono ?_; rintro e w1 ⟨rfl, hb⟩; obtain ⟨hc, hf⟩ := bcell hb; have hz0 : w.heap.size < w1.heap.size := (by have := hb.size; (try simp at this); omega); have hz1 : w.heap.size + 1 < w1.heap.size := (by have := hb.size; (try simp at this); omega))
    go_ret
    exact ⟨ret_int HC.out.symm, below_four ‹Below _ _ _› ‹Below _ _ _›⟩
  · have h1 : (goodE k y i != 0) = true := bne_t (by unfold goodE; rw [if_neg ha]; decide)
    clear h ha
    go_enter Try.func27, Try.ntmps27
    go_wp2_with (go_at_call 41; refine (ref_first _ _ _ _).mono ?_; rintro e w1 ⟨rfl, hb⟩; obtain ⟨hc, hf⟩ := bcell hb; have hz0 : w.heap.size < w1.heap.size := (by have := hb.size; (try simp at this); omega); have hz1 : w.heap.size + 1 < w1.heap.size := (by have := hb.size; (try simp at this); omega))
    go_ret
    exact ⟨ret_int HC.out.symm, below_four ‹Below _ _ _› ‹Below _ _ _›⟩

theorem below_six {k y i k' y' i' : Value} {t t' : TypeId} {w w1 w2 w3 w4 : World} (hb : Below ((w.alloc (.cells #[k, y, i] t)).alloc (.cells #[k', y', i'] t')).heap.size ((w.alloc (.cells #[k, y, i] t)).alloc (.cells #[k', y', i'] t')) w1) (hb2 : Below w1.heap.size w1 w2) (hb3 : Below w2.heap.size w2 w3) (hb4 : Below w3.heap.size w3 w4) : Below w.heap.size w w4 :=
  below_four hb (hb2.trans ((hb3.trans (hb4.mono hb3.size)).mono hb2.size))

set_option maxHeartbeats 1000000 in
theorem ref_cmp_ok (k y i k' y' i' : Int) (w : World) (ha : Civ.good k y i = true) (hB : Civ.good k' y' i' = true) :
    Calls Try.prog 27 #[.agg #[.int .i64 k, .int .i64 y, .int .i64 i], .agg #[.int .i64 k', .int .i64 y', .int .i64 i']] w fun e w' => e = .returned (.int .i64 (Civ.cmp k y i k' y' i')) ∧ Below w.heap.size w w' := by
  have h1 : (goodE k y i != 0) = false := bne_f (by unfold goodE; rw [if_pos ha])
  have h2 : (goodE k' y' i' != 0) = false := bne_f (by unfold goodE; rw [if_pos hB])
  have HC : Hid (Civ.cmp k y i k' y' i' = (if firstN k y i = firstN k' y' i' then (if lastN k y i < lastN k' y' i' then -1 else if lastN k' y' i' < lastN k y i then 1 else 0)
     else if firstN k y i < firstN k' y' i' then -1 else if firstN k' y' i' < firstN k y i then 1 else 0)) := Lib.hid (by unfold Civ.cmp firstN lastN; rw [if_pos ⟨ha, hB⟩, if_pos ha, if_pos hB, if_pos ha, if_pos hB])
  clear ha hB
  by_cases hx : firstN k y i = firstN k' y' i'
  · have h3 := beq_t hx
    have HC2 : Hid (Civ.cmp k y i k' y' i' = (if lastN k y i < lastN k' y' i' then -1 else if lastN k' y' i' < lastN k y i then 1 else 0)) := Lib.hid (by rw [HC.out, if_pos hx])
    clear hx HC
    go_enter Try.func27, Try.ntmps27
    go_wp2_with (first | (go_at_call 41; refine (ref_first _ _ _ _).mono ?_; rintro e w1 ⟨rfl, hb⟩; obtain ⟨hc, hf⟩ := bcell hb; have hz0 : w.heap.size < w1.heap.size := (by have := hb.size; (try simp at this); omega); have hz1 : w.heap.size + 1 < w1.heap.size := (by have := hb.size; (try simp at this); omega)) | (go_at_call 42; refine (ref_last _ _ _ _).mono ?_; rintro e w1 ⟨rfl, hb⟩; obtain ⟨hc, hf⟩ := bcell hb; have hz0 : w.heap.size < w1.heap.size := (by have := hb.size; (try simp at this); omega); have hz1 : w.heap.size + 1 < w1.heap.size := (by have := hb.size; (try simp at this); omega)))
    all_goals go_ret
    all_goals exact ⟨ret_int (by rw [HC2.out]; repeat' split <;> omega), below_six ‹_› ‹_› ‹_› ‹_›⟩
  · have h3 := beq_f hx
    have HC2 : Hid (Civ.cmp k y i k' y' i' = (if firstN k y i < firstN k' y' i' then -1 else if firstN k' y' i' < firstN k y i then 1 else 0)) := Lib.hid (by rw [HC.out, if_neg hx])
    clear hx HC
    go_enter Try.func27, Try.ntmps27
    go_wp2_with (go_at_call 41; refine (ref_first _ _ _ _).mono ?_; rintro e w1 ⟨rfl, hb⟩; obtain ⟨hc, hf⟩ := bcell hb; have hz0 : w.heap.size < w1.heap.size := (by have := hb.size; (try simp at this); omega); have hz1 : w.heap.size + 1 < w1.heap.size := (by have := hb.size; (try simp at this); omega))
    all_goals go_ret
    all_goals exact ⟨ret_int (by rw [HC2.out]; repeat' split <;> omega), below_four ‹_› ‹_›⟩

theorem below_res {k y i k' y' i' : Value} {t t' : TypeId} {w w1 : World} (hb : Below ((w.alloc (.cells #[k, y, i] t)).alloc (.cells #[k', y', i'] t')).heap.size ((w.alloc (.cells #[k, y, i] t)).alloc (.cells #[k', y', i'] t')) w1) (a b c : Value) :
    Below w.heap.size w (((w1.setCell ⟨w.heap.size + 1, 0, none⟩ a).setCell ⟨w.heap.size + 1, 1, none⟩ b).setCell ⟨w.heap.size + 1, 2, none⟩ c) :=
  (((below_four hb (Below.refl _ _)).setCell (by simp) _).setCell (by simp) _).setCell (by simp) _

set_option maxHeartbeats 400000 in
theorem ref_next_no (k y i b : Int) (w : World) (h : Civ.good k y i = false) :
    Calls Try.prog 11 #[.agg #[.int .i64 k, .int .i64 y, .int .i64 i], .int .i64 b] w fun e w' => e = .returned (.tuple #[.agg #[.int .i64 0, .int .i64 0, .int .i64 0], .int .i64 2]) ∧ Below w.heap.size w w' := by
  have HG := Lib.hid h
  clear h
  go_enter Try.func11, Try.ntmps11
  go_wp2_with (go_at_call 30; refine (ref_good_at HG.out _).mono ?_; rintro e w1 ⟨rfl, hb⟩; obtain ⟨hc, hf⟩ := bcell hb; have hz0 : w.heap.size < w1.heap.size := (by have := hb.size; (try simp at this); omega); have hz1 : w.heap.size + 1 < w1.heap.size := (by have := hb.size; (try simp at this); omega))
  exact bodyPost_ret (v := .tuple #[.agg #[.int .i64 0, .int .i64 0, .int .i64 0], .int .i64 2]) (by simp [results, Try.results11, go_sem, hc]) rfl ⟨rfl, below_res hb _ _ _⟩

theorem below_res2 {k y i k' y' i' : Value} {t t' : TypeId} {w w1 w2 : World} (hb : Below ((w.alloc (.cells #[k, y, i] t)).alloc (.cells #[k', y', i'] t')).heap.size ((w.alloc (.cells #[k, y, i] t)).alloc (.cells #[k', y', i'] t')) w1) (hb2 : Below w1.heap.size w1 w2) (a b c : Value) :
    Below w.heap.size w (((w2.setCell ⟨w.heap.size + 1, 0, none⟩ a).setCell ⟨w.heap.size + 1, 1, none⟩ b).setCell ⟨w.heap.size + 1, 2, none⟩ c) :=
  below_res (hb.trans (hb2.mono hb.size)) _ _ _

set_option maxHeartbeats 1000000 in
/-- no such period: too far ahead, or behind -/
theorem ref_next_far (k y i b : Int) (w : World) (h : Civ.good k y i = true) (hb : b < - Civ.place k y i ∨ 8030 * Civ.many k - Civ.place k y i ≤ b) :
    Calls Try.prog 11 #[.agg #[.int .i64 k, .int .i64 y, .int .i64 i], .int .i64 b] w fun e w' => e = .returned (.tuple #[.agg #[.int .i64 0, .int .i64 0, .int .i64 0], .int .i64 30]) ∧ Below w.heap.size w w' := by
  obtain ⟨h1, h2, h3, h4, h5⟩ := many_pos h
  have HG := Lib.hid h
  rcases h5 with ⟨rfl, hm⟩ | ⟨rfl, hm⟩ | ⟨rfl, hm⟩
  all_goals
    unfold Civ.place at hb
    rw [hm] at h4 hb
    have HM := Lib.hid hm
    have cn := fun w => ref_number _ y i w HG.out
    rw [hm] at cn
    have CN := Lib.hid cn
    clear hm cn h
    rcases hb with hb | hb
    all_goals
      go_enter Try.func11, Try.ntmps11
      go_wp2_with (first | (go_at_call 30; refine (ref_good_at HG.out _).mono ?_; rintro e w1 ⟨rfl, hb⟩; obtain ⟨hc, hf⟩ := bcell hb; have hz0 : w.heap.size < w1.heap.size := (by have := hb.size; (try simp at this); omega); have hz1 : w.heap.size + 1 < w1.heap.size := (by have := hb.size; (try simp at this); omega)) | (go_at_call 31; refine (ref_many_at HM.out _).mono ?_; rintro e w' ⟨rfl, rfl⟩) | (go_at_call 32; refine (CN.out _).mono ?_; rintro e w2 ⟨rfl, hb2⟩; obtain ⟨hc2, hf2⟩ := bcell hb2; have hz2 : w.heap.size < w2.heap.size := (by have := hb2.size; omega); have hz3 : w.heap.size + 1 < w2.heap.size := (by have := hb2.size; omega)))
      exact bodyPost_ret (v := .tuple #[.agg #[.int .i64 0, .int .i64 0, .int .i64 0], .int .i64 30]) (by simp [results, Try.results11, go_sem, hc, hc2, hz1]) rfl ⟨rfl, below_res2 ‹Below ((World.alloc _ _).alloc _).heap.size _ _› hb2 _ _ _⟩

set_option maxHeartbeats 1000000 in
theorem ref_next_ok (k y i b : Int) (w : World) (h : Civ.good k y i = true) (hb1 : - Civ.place k y i ≤ b) (hb2 : b < 8030 * Civ.many k - Civ.place k y i) :
    Calls Try.prog 11 #[.agg #[.int .i64 k, .int .i64 y, .int .i64 i], .int .i64 b] w fun e w' => e = .returned (.tuple #[.agg #[.int .i64 k, .int .i64 (1970 + (Civ.place k y i + b) / Civ.many k), .int .i64 ((Civ.place k y i + b) % Civ.many k + 1)], .int .i64 0]) ∧ Below w.heap.size w w' := by
  obtain ⟨h1, h2, h3, h4, h5⟩ := many_pos h
  have HG := Lib.hid h
  rcases h5 with ⟨rfl, hm⟩ | ⟨rfl, hm⟩ | ⟨rfl, hm⟩
  · unfold Civ.place at hb1 hb2 ⊢
    rw [hm] at h4 hb1 hb2 ⊢
    have HM := Lib.hid hm
    have cn := fun w => ref_number _ y i w HG.out
    rw [hm] at cn
    have CN := Lib.hid cn
    clear hm cn h
    go_enter Try.func11, Try.ntmps11
    go_wp2_with (first | (go_at_call 30; refine (ref_good_at HG.out _).mono ?_; rintro e w1 ⟨rfl, hb⟩; obtain ⟨hc, hf⟩ := bcell hb; have hz0 : w.heap.size < w1.heap.size := (by have := hb.size; (try simp at this); omega); have hz1 : w.heap.size + 1 < w1.heap.size := (by have := hb.size; (try simp at this); omega)) | (go_at_call 31; refine (ref_many_at HM.out _).mono ?_; rintro e w' ⟨rfl, rfl⟩) | (go_at_call 32; refine (CN.out _).mono ?_; rintro e w2 ⟨rfl, hb2⟩; obtain ⟨hc2, hf2⟩ := bcell hb2; have hz2 : w.heap.size < w2.heap.size := (by have := hb2.size; omega); have hz3 : w.heap.size + 1 < w2.heap.size := (by have := hb2.size; omega)))
    go_region
    go_wp2
    exact bodyPost_ret (v := .tuple #[.agg #[.int .i64 1, .int .i64 (1970 + ((y - 1970) * 12 + i - 1 + b) / 12), .int .i64 (((y - 1970) * 12 + i - 1 + b) % 12 + 1)], .int .i64 0]) (by simp [results, Try.results11, go_sem, hc, hc2, hz1]) rfl ⟨rfl, (below_res2 ‹Below ((World.alloc _ _).alloc _).heap.size _ _› ‹_› _ _ _).drew⟩
  · unfold Civ.place at hb1 hb2 ⊢
    rw [hm] at h4 hb1 hb2 ⊢
    have HM := Lib.hid hm
    have cn := fun w => ref_number _ y i w HG.out
    rw [hm] at cn
    have CN := Lib.hid cn
    clear hm cn h
    go_enter Try.func11, Try.ntmps11
    go_wp2_with (first | (go_at_call 30; refine (ref_good_at HG.out _).mono ?_; rintro e w1 ⟨rfl, hb⟩; obtain ⟨hc, hf⟩ := bcell hb; have hz0 : w.heap.size < w1.heap.size := (by have := hb.size; (try simp at this); omega); have hz1 : w.heap.size + 1 < w1.heap.size := (by have := hb.size; (try simp at this); omega)) | (go_at_call 31; refine (ref_many_at HM.out _).mono ?_; rintro e w' ⟨rfl, rfl⟩) | (go_at_call 32; refine (CN.out _).mono ?_; rintro e w2 ⟨rfl, hb2⟩; obtain ⟨hc2, hf2⟩ := bcell hb2; have hz2 : w.heap.size < w2.heap.size := (by have := hb2.size; omega); have hz3 : w.heap.size + 1 < w2.heap.size := (by have := hb2.size; omega)))
    go_region
    go_wp2
    exact bodyPost_ret (v := .tuple #[.agg #[.int .i64 2, .int .i64 (1970 + ((y - 1970) * 4 + i - 1 + b) / 4), .int .i64 (((y - 1970) * 4 + i - 1 + b) % 4 + 1)], .int .i64 0]) (by simp [results, Try.results11, go_sem, hc, hc2, hz1]) rfl ⟨rfl, (below_res2 ‹Below ((World.alloc _ _).alloc _).heap.size _ _› ‹_› _ _ _).drew⟩
  · unfold Civ.place at hb1 hb2 ⊢
    rw [hm] at h4 hb1 hb2 ⊢
    have HM := Lib.hid hm
    have cn := fun w => ref_number _ y i w HG.out
    rw [hm] at cn
    have CN := Lib.hid cn
    clear hm cn h
    go_enter Try.func11, Try.ntmps11
    go_wp2_with (first | (go_at_call 30; refine (ref_good_at HG.out _).mono ?_; rintro e w1 ⟨rfl, hb⟩; obtain ⟨hc, hf⟩ := bcell hb; have hz0 : w.heap.size < w1.heap.size := (by have := hb.size; (try simp at this); omega); have hz1 : w.heap.size + 1 < w1.heap.size := (by have := hb.size; (try simp at this); omega)) | (go_at_call 31; refine (ref_many_at HM.out _).mono ?_; rintro e w' ⟨rfl, rfl⟩) | (go_at_call 32; refine (CN.out _).mono ?_; rintro e w2 ⟨rfl, hb2⟩; obtain ⟨hc2, hf2⟩ := bcell hb2; have hz2 : w.heap.size < w2.heap.size := (by have := hb2.size; omega); have hz3 : w.heap.size + 1 < w2.heap.size := (by have := hb2.size; omega)))
    go_region
    go_wp2
    exact bodyPost_ret (v := .tuple #[.agg #[.int .i64 3, .int .i64 (1970 + ((y - 1970) * 1 + i - 1 + b) / 1), .int .i64 (((y - 1970) * 1 + i - 1 + b) % 1 + 1)], .int .i64 0]) (by simp [results, Try.results11, go_sem, hc, hc2, hz1]) rfl ⟨rfl, (below_res2 ‹Below ((World.alloc _ _).alloc _).heap.size _ _› ‹_› _ _ _).drew⟩
end Go.Proofs.Ytdacpiegfobhbaa
