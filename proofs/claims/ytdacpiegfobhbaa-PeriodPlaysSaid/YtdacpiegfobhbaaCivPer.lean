/- What each function of the document's own answers for stretches of time gives, at any input. -/
import Derived.Test.YtdacpiegfobhbaaCivRef
namespace Go.Proofs.Ytdacpiegfobhbaa
open Go.RowKit
set_option maxRecDepth 100000

set_option maxHeartbeats 400000 in
theorem ref_many (k : Int) (w : World) :
    Calls Try.prog 31 #[.int .i64 k] w fun e w' => e = .returned (.int .i64 (Civ.many k)) ∧ w = w' := by
  go_enter Try.func31, Try.ntmps31
  go_wp2
  all_goals go_ret
  all_goals exact ⟨ret_int (by simp_all [Civ.many]), rfl⟩

theorem ref_many_q (k : Int) (w : World) (n : Nat) :
    Calls Try.prog 31 #[.int .i64 k] (w.drewN n) fun e w' => e = .returned (.int .i64 (Civ.many k)) ∧ ∃ m, w' = w.drewN m :=
  (ref_many k _).mono fun _ _ ⟨he, hw⟩ => ⟨he, n, hw.symm⟩

theorem quiet_left {P : Program} {f : FuncId} {args : Array Value} {w : World} {n : Nat} {v : Value}
    (h : Calls P f args (w.drewN n) fun e w' => e = .returned v ∧ w.drewN n = w') : Calls P f args (w.drewN n) fun e w'' => e = .returned v ∧ ∃ m, w'' = w.drewN m :=
  h.mono fun _ _ ⟨he, hm⟩ => ⟨he, n, hm.symm⟩
theorem below_drewN {B : Nat} {a w : World} (h : Below B a w) (n : Nat) : Below B a (w.drewN n) := ⟨h.os, h.tape, h.output, h.size, h.block⟩

set_option maxHeartbeats 400000 in
theorem ref_good (k y i : Int) (w : World) :
    Calls Try.prog 30 #[.agg #[.int .i64 k, .int .i64 y, .int .i64 i]] w fun e w' => e = .returned (.bool (Civ.good k y i)) ∧ Below w.heap.size w w' := by
  by_cases h1 : 1970 ≤ y
  · by_cases h2 : y ≤ 9999
    · by_cases h3 : 1 ≤ i
      · go_enter Try.func30, Try.ntmps30
        go_wp2
        go_quiet ((go_at_call 31; exact ref_many_q _ _ _))
        go_wp2
        go_ret
        exact ⟨ret_bool (by simp [Civ.good, h1, h2, h3]), below_drewN ((Below.refl _ _).alloc (Nat.le_refl _) _) _⟩
      · have hd : decide (1 ≤ i) = false := by simpa using h3
        go_enter Try.func30, Try.ntmps30
        go_wp2
        go_quiet ((go_at_call 31; exact ref_many_q _ _ _))
        go_wp2
        go_ret
        exact ⟨ret_bool (by simp only [Civ.good, hd, Bool.and_false, Bool.false_and]), below_drewN ((Below.refl _ _).alloc (Nat.le_refl _) _) _⟩
    · have hd : decide (y ≤ 9999) = false := by simpa using h2
      go_enter Try.func30, Try.ntmps30
      go_wp2
      go_quiet ((go_at_call 31; exact ref_many_q _ _ _))
      go_wp2
      go_ret
      exact ⟨ret_bool (by simp only [Civ.good, hd, Bool.and_false, Bool.false_and]), below_drewN ((Below.refl _ _).alloc (Nat.le_refl _) _) _⟩
  · have hd : decide (1970 ≤ y) = false := by simpa using h1
    go_enter Try.func30, Try.ntmps30
    go_wp2
    go_quiet ((go_at_call 31; exact ref_many_q _ _ _))
    go_wp2
    go_ret
    exact ⟨ret_bool (by simp only [Civ.good, hd, Bool.false_and]), below_drewN ((Below.refl _ _).alloc (Nat.le_refl _) _) _⟩

theorem many_pos {k y i : Int} (h : Civ.good k y i = true) : 1970 ≤ y ∧ y ≤ 9999 ∧ 1 ≤ i ∧ i ≤ Civ.many k ∧ (k = 1 ∧ Civ.many k = 12 ∨ k = 2 ∧ Civ.many k = 4 ∨ k = 3 ∧ Civ.many k = 1) := by
  simp only [Civ.good, Bool.and_eq_true, decide_eq_true_eq] at h
  obtain ⟨⟨⟨h1, h2⟩, h3⟩, h4⟩ := h
  refine ⟨h1, h2, h3, h4, ?_⟩
  unfold Civ.many at h4 ⊢
  by_cases a : k = 1
  · exact .inl ⟨a, by rw [if_pos a]⟩
  · by_cases b : k = 2
    · exact .inr (.inl ⟨b, by rw [if_neg a, if_pos b]⟩)
    · by_cases c : k = 3
      · exact .inr (.inr ⟨c, by rw [if_neg a, if_neg b, if_pos c]⟩)
      · rw [if_neg a, if_neg b, if_neg c] at h4; omega

theorem ref_many_at {k K : Int} (h : Civ.many k = K) (w : World) :
    Calls Try.prog 31 #[.int .i64 k] w fun e w' => e = .returned (.int .i64 K) ∧ w = w' := by
  have := ref_many k w
  rw [h] at this
  exact this
theorem ref_many_at_q {k K : Int} (h : Civ.many k = K) (w : World) (n : Nat) :
    Calls Try.prog 31 #[.int .i64 k] (w.drewN n) fun e w' => e = .returned (.int .i64 K) ∧ ∃ m, w' = w.drewN m :=
  (ref_many_at h _).mono fun _ _ ⟨he, hw⟩ => ⟨he, n, hw.symm⟩

set_option maxHeartbeats 400000 in
theorem ref_number (k y i : Int) (w : World) (h : Civ.good k y i = true) :
    Calls Try.prog 32 #[.agg #[.int .i64 k, .int .i64 y, .int .i64 i]] w fun e w' => e = .returned (.int .i64 ((y - 1970) * Civ.many k + i - 1)) ∧ Below w.heap.size w w' := by
  obtain ⟨h1, h2, h3, h4, h5⟩ := many_pos h
  clear h
  rcases h5 with ⟨rfl, hm⟩ | ⟨rfl, hm⟩ | ⟨rfl, hm⟩
  all_goals
    rw [hm] at h4 ⊢
    have HM := Lib.hid hm
    clear hm
    go_enter Try.func32, Try.ntmps32
    go_wp2
    go_quiet ((go_at_call 31; exact ref_many_at_q HM.out _ _))
    go_wp2
    go_ret
    exact ⟨ret_int (by first | rfl | omega), below_drewN ((Below.refl _ _).alloc (Nat.le_refl _) _) _⟩

theorem bcell {W w1 : World} (hb : Below W.heap.size W w1) : (∀ b o, b < W.heap.size → w1.cell? ⟨b, o, none⟩ = W.cell? ⟨b, o, none⟩) ∧ (∀ b o, b < W.heap.size → w1.frozen? ⟨b, o, none⟩ = W.frozen? ⟨b, o, none⟩) :=
  ⟨fun b o h => hb.cell (p := ⟨b, o, none⟩) h, fun b o h => hb.frozen (p := ⟨b, o, none⟩) h⟩
theorem ref_good_at {k y i : Int} {g : Bool} (h : Civ.good k y i = g) (w : World) :
    Calls Try.prog 30 #[.agg #[.int .i64 k, .int .i64 y, .int .i64 i]] w fun e w' => e = .returned (.bool g) ∧ Below w.heap.size w w' := by
  have := ref_good k y i w
  rw [h] at this
  exact this

theorem ref_day_first (y m : Int) (w : World) (h1 : 1970 ≤ y) (h2 : y ≤ 9999) (h3 : 1 ≤ m) (h4 : m ≤ 12) :
    Calls Try.prog 50 #[.int .i64 y, .int .i64 m, .int .i64 1] w fun e w' => e = .returned (.tuple #[.int .i64 (Civ.number y m 1), .int .i64 0]) ∧ w = w' :=
  ref_day_ok y m 1 w (by have := Civ.len_lo h1 h2 h3 h4; omega) (by omega) (by have := Civ.len_lo h1 h2 h3 h4; omega)
theorem ref_day_last (y m : Int) (w : World) (h1 : 1970 ≤ y) (h2 : y ≤ 9999) (h3 : 1 ≤ m) (h4 : m ≤ 12) :
    Calls Try.prog 50 #[.int .i64 y, .int .i64 m, .int .i64 (Civ.len y m)] w fun e w' => e = .returned (.tuple #[.int .i64 (Civ.number y m (Civ.len y m)), .int .i64 0]) ∧ w = w' :=
  ref_day_ok y m _ w (by have := Civ.len_lo h1 h2 h3 h4; omega) (by have := Civ.len_lo h1 h2 h3 h4; omega) (by omega)

/-- a call's end with two numbers, and what it may have made -/
theorem below_two {k y i : Value} {t : TypeId} {w w1 : World} (hb : Below (w.alloc (.cells #[k, y, i] t)).heap.size (w.alloc (.cells #[k, y, i] t)) w1) : Below w.heap.size w w1 :=
  ((Below.refl _ _).alloc (Nat.le_refl _) _).trans (hb.mono (by simp))

set_option maxHeartbeats 400000 in
theorem ref_first_ok (k y i : Int) (w : World) (h : Civ.good k y i = true) :
    Calls Try.prog 41 #[.agg #[.int .i64 k, .int .i64 y, .int .i64 i]] w fun e w' => e = .returned (.tuple #[.int .i64 (Civ.first k y i), .int .i64 0]) ∧ Below w.heap.size w w' := by
  obtain ⟨h1, h2, h3, h4, h5⟩ := many_pos h
  have HG := Lib.hid h
  clear h
  rcases h5 with ⟨rfl, hm⟩ | ⟨rfl, hm⟩ | ⟨rfl, hm⟩
  all_goals
    rw [hm] at h4
    have HM := Lib.hid hm
    clear hm
    go_enter Try.func41, Try.ntmps41
    go_wp2_with (first | (go_at_call 30; refine (ref_good_at HG.out _).mono ?_; rintro e w1 ⟨rfl, hb⟩; obtain ⟨hc, hf⟩ := bcell hb) | (go_at_call 31; refine (ref_many_at HM.out _).mono ?_; rintro e w' ⟨rfl, rfl⟩) | (go_at_call 50; refine (ref_day_first _ _ _ (by omega) (by omega) (by omega) (by omega)).mono ?_; rintro e w' ⟨rfl, rfl⟩))
    go_ret2
    exact ⟨ret_ii (by simp [Civ.first, Civ.each]) rfl, below_two hb⟩

set_option maxHeartbeats 400000 in
theorem ref_first_no (k y i : Int) (w : World) (h : Civ.good k y i = false) :
    Calls Try.prog 41 #[.agg #[.int .i64 k, .int .i64 y, .int .i64 i]] w fun e w' => e = .returned (.tuple #[.int .i64 0, .int .i64 2]) ∧ Below w.heap.size w w' := by
  have HG := Lib.hid h
  clear h
  go_enter Try.func41, Try.ntmps41
  go_wp2_with (go_at_call 30; refine (ref_good_at HG.out _).mono ?_; rintro e w1 ⟨rfl, hb⟩; obtain ⟨hc, hf⟩ := bcell hb)
  go_ret2
  exact ⟨rfl, below_two hb⟩

set_option maxHeartbeats 400000 in
theorem ref_last_no (k y i : Int) (w : World) (h : Civ.good k y i = false) :
    Calls Try.prog 42 #[.agg #[.int .i64 k, .int .i64 y, .int .i64 i]] w fun e w' => e = .returned (.tuple #[.int .i64 0, .int .i64 2]) ∧ Below w.heap.size w w' := by
  have HG := Lib.hid h
  clear h
  go_enter Try.func42, Try.ntmps42
  go_wp2_with (go_at_call 30; refine (ref_good_at HG.out _).mono ?_; rintro e w1 ⟨rfl, hb⟩; obtain ⟨hc, hf⟩ := bcell hb)
  go_ret2
  exact ⟨rfl, below_two hb⟩

set_option maxHeartbeats 400000 in
theorem ref_last_ok (k y i : Int) (w : World) (h : Civ.good k y i = true) :
    Calls Try.prog 42 #[.agg #[.int .i64 k, .int .i64 y, .int .i64 i]] w fun e w' => e = .returned (.tuple #[.int .i64 (Civ.last k y i), .int .i64 0]) ∧ Below w.heap.size w w' := by
  obtain ⟨h1, h2, h3, h4, h5⟩ := many_pos h
  have HG := Lib.hid h
  clear h
  rcases h5 with ⟨rfl, hm⟩ | ⟨rfl, hm⟩ | ⟨rfl, hm⟩
  all_goals
    rw [hm] at h4
    have HM := Lib.hid hm
    clear hm
    go_enter Try.func42, Try.ntmps42
    go_wp2_with (first | (go_at_call 30; refine (ref_good_at HG.out _).mono ?_; rintro e w1 ⟨rfl, hb⟩; obtain ⟨hc, hf⟩ := bcell hb) | (go_at_call 31; refine (ref_many_at HM.out _).mono ?_; rintro e w' ⟨rfl, rfl⟩))
    go_quiet (first | (go_at_call 51; exact quiet_left (ref_len _ _ _)) | (go_at_call 50; exact quiet_left (ref_day_last _ _ _ (by omega) (by omega) (by omega) (by omega))))
    go_wp2
    go_ret2
    exact ⟨ret_ii (by simp [Civ.last, Civ.each]) rfl, below_drewN (below_two hb) _⟩
end Go.Proofs.Ytdacpiegfobhbaa
