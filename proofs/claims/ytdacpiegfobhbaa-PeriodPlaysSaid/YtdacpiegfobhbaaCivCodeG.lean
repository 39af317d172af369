/- The period so many behind, and the one that has a day, as the program tells them. -/
import Derived.Test.YtdacpiegfobhbaaCivCodeF
namespace Go.Proofs.Ytdacpiegfobhbaa
open Go.RowKit
set_option maxRecDepth 100000

/-- the next period's call in one: what it gives at any period and any step -/
def nextK (k y i b : Int) : Int := if Civ.good k y i = true ∧ - Civ.place k y i ≤ b ∧ b < 8030 * Civ.many k - Civ.place k y i then k else 0
def nextY (k y i b : Int) : Int := if Civ.good k y i = true ∧ - Civ.place k y i ≤ b ∧ b < 8030 * Civ.many k - Civ.place k y i then 1970 + (Civ.place k y i + b) / Civ.many k else 0
def nextI (k y i b : Int) : Int := if Civ.good k y i = true ∧ - Civ.place k y i ≤ b ∧ b < 8030 * Civ.many k - Civ.place k y i then (Civ.place k y i + b) % Civ.many k + 1 else 0
def nextE (k y i b : Int) : Int := if Civ.good k y i = true ∧ - Civ.place k y i ≤ b ∧ b < 8030 * Civ.many k - Civ.place k y i then 0 else if Civ.good k y i = true then 30 else 2
theorem ref_next (k y i b : Int) (w : World) :
    Calls Try.prog 11 #[.agg #[.int .i64 k, .int .i64 y, .int .i64 i], .int .i64 b] w fun e w' => e = .returned (.tuple #[.agg #[.int .i64 (nextK k y i b), .int .i64 (nextY k y i b), .int .i64 (nextI k y i b)], .int .i64 (nextE k y i b)]) ∧ Below w.heap.size w w' := by
  unfold nextK nextY nextI nextE
  by_cases h : Civ.good k y i = true ∧ - Civ.place k y i ≤ b ∧ b < 8030 * Civ.many k - Civ.place k y i
  · rw [if_pos h, if_pos h, if_pos h, if_pos h]; exact ref_next_ok k y i b w h.1 h.2.1 h.2.2
  · rw [if_neg h, if_neg h, if_neg h, if_neg h]
    by_cases g : Civ.good k y i = true
    · rw [if_pos g]; exact ref_next_far k y i b w g (by have : ¬ (- Civ.place k y i ≤ b ∧ b < 8030 * Civ.many k - Civ.place k y i) := fun x => h ⟨g, x⟩; omega)
    · rw [if_neg g]; exact ref_next_no k y i b w (by simpa using g)

theorem below_res3 {k y i k' y' i' : Value} {t t' : TypeId} {w w1 : World} (hb : Below ((w.alloc (.cells #[k, y, i] t)).alloc (.cells #[k', y', i'] t')).heap.size ((w.alloc (.cells #[k, y, i] t)).alloc (.cells #[k', y', i'] t')) w1) : Below w.heap.size w w1 :=
  (((Below.refl _ _).alloc (Nat.le_refl _) _).alloc (by simp) _).trans (hb.mono (by simp; omega))
theorem nextK_far {k y i b : Int} (h : ¬ (Civ.good k y i = true ∧ - Civ.place k y i ≤ b ∧ b < 8030 * Civ.many k - Civ.place k y i)) : nextK k y i b = 0 ∧ nextY k y i b = 0 ∧ nextI k y i b = 0 := by
  unfold nextK nextY nextI; rw [if_neg h, if_neg h, if_neg h]; exact ⟨rfl, rfl, rfl⟩
theorem nextE_far {k y i b : Int} (g : Civ.good k y i = true) (h : b < - Civ.place k y i ∨ 8030 * Civ.many k - Civ.place k y i ≤ b) : nextE k y i b = 30 := by
  unfold nextE; rw [if_neg (by omega), if_pos g]
theorem nextE_no {k y i b : Int} (g : Civ.good k y i = false) : nextE k y i b = 2 := by
  unfold nextE; rw [if_neg (by simp [g]), if_neg (by simp [g])]
theorem kM_at {k M : Int} (h : Civ.many k = M) : kM k = if M = 12 then 1 else if M = 4 then 3 else if M = 1 then 12 else 0 := by
  rcases kM_cases k with ⟨_, e, f⟩ | ⟨_, e, f⟩ | ⟨_, e, f⟩ | ⟨e, f⟩ <;> rw [e, ← h, f] <;> decide
set_option maxHeartbeats 2000000 in
theorem code_next_no (k y i b : Int) (w : World) (g : Civ.good k y i = false) :
    Calls Try.prog 49 #[.agg #[.int .i64 k, .int .i64 y, .int .i64 i], .int .i64 b] w fun e w' => e = .returned (.tuple #[.agg #[.int .i64 0, .int .i64 0, .int .i64 0], .int .i64 2]) ∧ Below w.heap.size w w' := by
  have G := Lib.hid g
  clear g
  go_enter Try.func49, Try.ntmps49
  go_wp2_with (go_at_call 47; refine (code_good_at G.out _).mono ?_; rintro e w1 ⟨rfl, hb⟩; obtain ⟨hc, hf⟩ := bcell hb; have hz0 : w.heap.size < w1.heap.size := (by have := hb.size; (try simp at this); omega); have hz1 : w.heap.size + 1 < w1.heap.size := (by have := hb.size; (try simp at this); omega))
  exact bodyPost_ret (v := .tuple #[.agg #[.int .i64 0, .int .i64 0, .int .i64 0], .int .i64 2]) (by simp [results, Try.results49, go_sem, hc]) rfl ⟨rfl, below_res hb _ _ _⟩
set_option maxHeartbeats 2000000 in
theorem code_next_far (k y i b : Int) (w : World) (g : Civ.good k y i = true) (h : b < - Civ.place k y i ∨ 8030 * Civ.many k - Civ.place k y i ≤ b) :
    Calls Try.prog 49 #[.agg #[.int .i64 k, .int .i64 y, .int .i64 i], .int .i64 b] w fun e w' => e = .returned (.tuple #[.agg #[.int .i64 0, .int .i64 0, .int .i64 0], .int .i64 30]) ∧ Below w.heap.size w w' := by
  obtain ⟨h1, h2, h3, h4, h5⟩ := many_pos g
  have G := Lib.hid g
  clear g
  unfold Civ.place at h
  rcases h5 with ⟨rfl, hm⟩ | ⟨rfl, hm⟩ | ⟨rfl, hm⟩
  all_goals
    rw [hm] at h h4
    have K := Lib.hid (kM_at hm)
    clear hm
    rcases h with h | h
    all_goals
      go_enter Try.func49, Try.ntmps49
      go_wp2_with (first | (go_at_call 47; refine (code_good_at G.out _).mono ?_; rintro e w1 ⟨rfl, hb⟩; obtain ⟨hc, hf⟩ := bcell hb; have hz0 : w.heap.size < w1.heap.size := (by have := hb.size; (try simp at this); omega); have hz1 : w.heap.size + 1 < w1.heap.size := (by have := hb.size; (try simp at this); omega)) | (go_at_call 44; refine (code_kind_at K.out _).mono ?_; rintro e w' ⟨rfl, rfl⟩))
      exact bodyPost_ret (v := .tuple #[.agg #[.int .i64 0, .int .i64 0, .int .i64 0], .int .i64 30]) (by simp [results, Try.results49, go_sem, hc]) rfl ⟨rfl, below_res hb _ _ _⟩
set_option maxHeartbeats 2000000 in
theorem code_next_ok (k y i b : Int) (w : World) (g : Civ.good k y i = true) (h : - Civ.place k y i ≤ b) (h' : b < 8030 * Civ.many k - Civ.place k y i) :
    Calls Try.prog 49 #[.agg #[.int .i64 k, .int .i64 y, .int .i64 i], .int .i64 b] w fun e w' => e = .returned (.tuple #[.agg #[.int .i64 k, .int .i64 (1970 + (Civ.place k y i + b) / Civ.many k), .int .i64 ((Civ.place k y i + b) % Civ.many k + 1)], .int .i64 0]) ∧ Below w.heap.size w w' := by
  obtain ⟨h1, h2, h3, h4, h5⟩ := many_pos g
  have G := Lib.hid g
  clear g
  unfold Civ.place at *
  rcases h5 with ⟨rfl, hm⟩ | ⟨rfl, hm⟩ | ⟨rfl, hm⟩
  all_goals
    rw [hm] at h h' h4 ⊢
    have K := Lib.hid (kM_at hm)
    clear hm
    go_enter Try.func49, Try.ntmps49
    go_wp2_with (first | (go_at_call 47; refine (code_good_at G.out _).mono ?_; rintro e w1 ⟨rfl, hb⟩; obtain ⟨hc, hf⟩ := bcell hb; have hz0 : w.heap.size < w1.heap.size := (by have := hb.size; (try simp at this); omega); have hz1 : w.heap.size + 1 < w1.heap.size := (by have := hb.size; (try simp at this); omega)) | (go_at_call 44; refine (code_kind_at K.out _).mono ?_; rintro e w' ⟨rfl, rfl⟩))
    go_region
    go_wp2
    refine bodyPost_ret (v := .tuple #[.agg #[.int .i64 _, .int .i64 (1970 + ((y - 1970) * _ + i - 1 + b) / _), .int .i64 (((y - 1970) * _ + i - 1 + b) % _ + 1)], .int .i64 0]) ?_ rfl ⟨rfl, (below_res hb _ _ _).drew⟩
    simp [results, Try.results49, go_sem, hc]
    try omega

theorem code_next (k y i b : Int) (w : World) :
    Calls Try.prog 49 #[.agg #[.int .i64 k, .int .i64 y, .int .i64 i], .int .i64 b] w fun e w' => e = .returned (.tuple #[.agg #[.int .i64 (nextK k y i b), .int .i64 (nextY k y i b), .int .i64 (nextI k y i b)], .int .i64 (nextE k y i b)]) ∧ Below w.heap.size w w' := by
  by_cases h : Civ.good k y i = true ∧ - Civ.place k y i ≤ b ∧ b < 8030 * Civ.many k - Civ.place k y i
  · unfold nextK nextY nextI nextE
    rw [if_pos h, if_pos h, if_pos h, if_pos h]
    exact code_next_ok k y i b w h.1 h.2.1 h.2.2
  · obtain ⟨e1, e2, e3⟩ := nextK_far h
    rw [e1, e2, e3]
    by_cases g : Civ.good k y i = true
    · have f : b < - Civ.place k y i ∨ 8030 * Civ.many k - Civ.place k y i ≤ b := by
        have : ¬ (- Civ.place k y i ≤ b ∧ b < 8030 * Civ.many k - Civ.place k y i) := fun x => h ⟨g, x⟩
        omega
      rw [nextE_far g f]; exact code_next_far k y i b w g f
    · have g : Civ.good k y i = false := by simpa using g
      rw [nextE_no g]; exact code_next_no k y i b w g

theorem below_three {k y i : Value} {t : TypeId} {w w1 : World} (hb : Below (w.alloc (.cells #[k, y, i] t)).heap.size (w.alloc (.cells #[k, y, i] t)) w1) (a b c : Value) (o : Obj) :
    Below w.heap.size w ((((w1.setCell ⟨w.heap.size, 0, none⟩ a).setCell ⟨w.heap.size, 1, none⟩ b).setCell ⟨w.heap.size, 2, none⟩ c).alloc o) :=
  ((((below_two hb).setCell (by simp) _).setCell (by simp) _).setCell (by simp) _).alloc (by have := hb.size; simp at this ⊢; omega) _

theorem code_kind_many {k : Int} (h : Civ.many k = 0) (w : World) :
    Calls Try.prog 44 #[.int .i64 k] w fun e w' => e = .returned (.int .i64 0) ∧ w = w' :=
  code_kind_at (by rcases kM_cases k with ⟨_, _, e⟩ | ⟨_, _, e⟩ | ⟨_, _, e⟩ | ⟨e, _⟩ <;> omega) w
theorem below_of {k y i : Value} {t : TypeId} {w w1 : World} (hb : Below (w.alloc (.cells #[k, y, i] t)).heap.size (w.alloc (.cells #[k, y, i] t)) w1) (a b c : Value) :
    Below w.heap.size w (((w1.setCell ⟨w.heap.size, 0, none⟩ a).setCell ⟨w.heap.size, 1, none⟩ b).setCell ⟨w.heap.size, 2, none⟩ c) :=
  (((below_two hb).setCell (by simp) _).setCell (by simp) _).setCell (by simp) _
set_option maxHeartbeats 1000000 in
theorem code_of_no (n k : Int) (w : World) (h : n < 0 ∨ 2932896 < n) :
    Calls Try.prog 28 #[.int .i64 n, .int .i64 k] w fun e w' => e = .returned (.tuple #[.agg #[.int .i64 0, .int .i64 0, .int .i64 0], .int .i64 30]) ∧ Below w.heap.size w w' := by
  have H := Lib.hid h
  clear h
  go_enter Try.func28, Try.ntmps28
  go_wp2_with (go_at_call 43; refine (code_date_no _ _ H.out).mono ?_; rintro e w1 ⟨rfl, hb⟩; obtain ⟨hc, hf⟩ := bcell hb; have hz0 : w.heap.size < w1.heap.size := (by have := hb.size; (try simp at this); omega))
  exact bodyPost_ret (v := .tuple #[.agg #[.int .i64 0, .int .i64 0, .int .i64 0], .int .i64 30]) (by simp [results, Try.results28, go_sem, hc]) rfl ⟨rfl, below_of hb _ _ _⟩
/-- each number from the first to the last is a day's -/
theorem number_all {n : Int} (h1 : 0 ≤ n) (h2 : n ≤ 2932896) : ∃ y m d : Int, Civ.valid y m d ∧ Civ.number y m d = n := by
  have hy : ∀ K : Nat, K ≤ 8029 → n < Civ.years (K + 1) → ∃ k : Nat, k ≤ K ∧ Civ.years k ≤ n ∧ n < Civ.years (k + 1) := by
    intro K
    induction K with
    | zero => intro _ h; exact ⟨0, Nat.le_refl _, by simpa [Civ.years] using h1, h⟩
    | succ K ih =>
      intro hK h
      by_cases c : Civ.years (K + 1) ≤ n
      · exact ⟨K + 1, Nat.le_refl _, c, h⟩
      · obtain ⟨k, a, b⟩ := ih (by omega) (by omega)
        exact ⟨k, by omega, b⟩
  obtain ⟨k, hk, hk1, hk2⟩ := hy 8029 (Nat.le_refl _) (by rw [Civ.years_end]; omega)
  have e1 : Civ.years (k + 1) = Civ.years k + Civ.days (1970 + k) := rfl
  have e2 := Civ.months_12 (y := 1970 + k) (by omega) (by omega)
  have hm : ∀ J : Nat, n - Civ.years k < Civ.months (1970 + k) (J + 1) → ∃ j : Nat, j ≤ J ∧ Civ.months (1970 + k) j ≤ n - Civ.years k ∧ n - Civ.years k < Civ.months (1970 + k) (j + 1) := by
    intro J
    induction J with
    | zero => intro h; exact ⟨0, Nat.le_refl _, by simp only [Civ.months]; omega, h⟩
    | succ J ih =>
      intro h
      by_cases c : Civ.months (1970 + k) (J + 1) ≤ n - Civ.years k
      · exact ⟨J + 1, Nat.le_refl _, c, h⟩
      · obtain ⟨j, a, b⟩ := ih (by omega)
        exact ⟨j, by omega, b⟩
  obtain ⟨j, hj, hj1, hj2⟩ := hm 11 (by rw [e2]; omega)
  rw [Civ.months_succ] at hj2
  have hl := Civ.len_lo (y := 1970 + k) (m := 1 + j) (by omega) (by omega) (by omega) (by omega)
  refine ⟨1970 + k, 1 + j, n - Civ.years k - Civ.months (1970 + k) j + 1, ⟨by omega, by omega, by omega⟩, ?_⟩
  unfold Civ.number
  rw [show (1970 + (k : Int) - 1970).toNat = k by omega, show (1 + (j : Int) - 1).toNat = j by omega]
  omega

theorem code_date_any (n : Int) (w : World) (h1 : 0 ≤ n) (h2 : n ≤ 2932896) : ∃ y m d : Int, (Civ.valid y m d ∧ Civ.number y m d = n) ∧
    Calls Try.prog 43 #[.int .i64 n] w fun e w' => e = .returned (.tuple #[.int .i64 y, .int .i64 m, .int .i64 d, .int .i64 0]) ∧ Below w.heap.size w w' := by
  obtain ⟨y, m, d, hv, hn⟩ := number_all h1 h2
  refine ⟨y, m, d, ⟨hv, hn⟩, ?_⟩
  rw [← hn]
  exact code_date_ok y m d w hv
set_option maxHeartbeats 1000000 in
theorem code_of_kind (n k : Int) (w : World) (h1 : 0 ≤ n) (h2 : n ≤ 2932896) (hk : Civ.many k = 0) :
    Calls Try.prog 28 #[.int .i64 n, .int .i64 k] w fun e w' => e = .returned (.tuple #[.agg #[.int .i64 0, .int .i64 0, .int .i64 0], .int .i64 2]) ∧ Below w.heap.size w w' := by
  obtain ⟨y, m, d, hv, hn⟩ := number_all h1 h2
  have D := fun W => code_date_ok y m d W hv
  rw [hn] at D
  have HD := Lib.hid D
  have H := Lib.hid hk
  clear hk hv hn D
  go_enter Try.func28, Try.ntmps28
  go_wp2_with (first | (go_at_call 43; refine (HD.out _).mono ?_; rintro e w1 ⟨rfl, hb⟩; obtain ⟨hc, hf⟩ := bcell hb; have hz0 : w.heap.size < w1.heap.size := (by have := hb.size; (try simp at this); omega)) | (go_at_call 44; refine (code_kind_many H.out _).mono ?_; rintro e w' ⟨rfl, rfl⟩))
  exact bodyPost_ret (v := .tuple #[.agg #[.int .i64 0, .int .i64 0, .int .i64 0], .int .i64 2]) (by simp [results, Try.results28, go_sem, hc]) rfl ⟨rfl, below_of hb _ _ _⟩
theorem many_kM {k : Int} (h : ¬ Civ.many k = 0) : kM k = Civ.each k ∧ (Civ.each k = 1 ∨ Civ.each k = 3 ∨ Civ.each k = 12) := by
  rcases kM_cases k with ⟨rfl, e, _⟩ | ⟨rfl, e, _⟩ | ⟨rfl, e, _⟩ | ⟨_, e⟩
  · exact ⟨by rw [e]; rfl, by simp [Civ.each]⟩
  · exact ⟨by rw [e]; rfl, by simp [Civ.each]⟩
  · exact ⟨by rw [e]; rfl, by simp [Civ.each]⟩
  · omega
set_option maxHeartbeats 1000000 in
theorem code_of_ok (y m d k : Int) (w : World) (hv : Civ.valid y m d) (hk : ¬ Civ.many k = 0) :
    Calls Try.prog 28 #[.int .i64 (Civ.number y m d), .int .i64 k] w fun e w' => e = .returned (.tuple #[.agg #[.int .i64 k, .int .i64 y, .int .i64 ((m - 1) / Civ.each k + 1)], .int .i64 0]) ∧ Below w.heap.size w w' := by
  obtain ⟨a1, a2, a3, a4⟩ := Civ.valid_bd hv
  have HV := Lib.hid hv
  clear hv
  obtain ⟨ke, hE⟩ := many_kM hk
  clear hk
  have E : Hid (∀ W, Calls Try.prog 44 #[.int .i64 k] W fun e w' => e = .returned (.int .i64 (Civ.each k)) ∧ W = w') := Lib.hid (fun W => code_kind_at ke W)
  clear ke
  rcases hE with he | he | he
  all_goals
    rw [he] at E ⊢
    clear he
    go_enter Try.func28, Try.ntmps28
    go_wp2_with (first | (go_at_call 43; refine (code_date_ok _ _ _ _ HV.out).mono ?_; rintro e w1 ⟨rfl, hb⟩; obtain ⟨hc, hf⟩ := bcell hb; have hz0 : w.heap.size < w1.heap.size := (by have := hb.size; (try simp at this); omega)) | (go_at_call 44; refine (E.out _).mono ?_; rintro e w' ⟨rfl, rfl⟩))
    refine bodyPost_ret (v := .tuple #[.agg #[.int .i64 k, .int .i64 y, .int .i64 ((m - 1) / _ + 1)], .int .i64 0]) ?_ rfl ⟨rfl, below_of hb _ _ _⟩
    simp [results, Try.results28, go_sem, hc]
    try omega
end Go.Proofs.Ytdacpiegfobhbaa
