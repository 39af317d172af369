/- Which of two periods comes first, as the program tells it. -/
import Derived.Test.YtdacpiegfobhbaaCivCodeG
import Derived.Test.YtdacpiegfobhbaaCivMath2
import Derived.Deep.RegionHeld3
namespace Go.Proofs.Ytdacpiegfobhbaa
open Go.RowKit
set_option maxRecDepth 100000

set_option maxHeartbeats 400000 in
theorem code_isNaN (x : Int) (w : World) :
    Calls Try.prog 65 #[.int .i64 x] w fun e w' => e = .returned (.bool false) ∧ w = w' := by
  go_enter Try.func65, Try.ntmps65
  go_wp2
  go_ret
  exact ⟨ret_bool (by simp), rfl⟩
def cmp3 (x y : Int) : Int := if x < y then -1 else if y < x then 1 else 0
set_option maxHeartbeats 400000 in
theorem code_compare (x y : Int) (w : World) :
    Calls Try.prog 60 #[.int .i64 x, .int .i64 y] w fun e w' => e = .returned (.int .i64 (cmp3 x y)) ∧ w = w' := by
  go_enter Try.func60, Try.ntmps60
  go_wp2_with (go_at_call 65; refine (code_isNaN _ _).mono ?_; rintro e w' ⟨rfl, rfl⟩)
  all_goals go_ret
  all_goals exact ⟨ret_int (by simp_all [cmp3]; try omega), rfl⟩
def orN (x y : Int) : Int := if x = 0 then y else x
set_option maxHeartbeats 1000000 in
theorem code_or (x y : Int) (b : Nat) (w : World) (c0 : w.cell? ⟨b, 0, none⟩ = some (.int .i64 x)) (c1 : w.cell? ⟨b, 1, none⟩ = some (.int .i64 y)) :
    Calls Try.prog 59 #[.slice (some ⟨b, 0, none⟩) 2 2] w fun e w' => e = .returned (.int .i64 (orN x y)) ∧ w = w' := by
  go_enter Try.func59, Try.ntmps59
  go_wp2
  go_loop [8] (fun i => ∃ k : Nat, k ≤ 2 ∧ (1 ≤ k → x = 0) ∧ (2 ≤ k → y = 0) ∧ i = .int .i64 k) (fun i => 2 - (intOf i).toNat)
  case atStart => exact ⟨0, by omega, by omega, by omega, rfl⟩
  case round =>
    obtain ⟨k, hk, h1, h2, rfl⟩ := hrel
    have h3 : k = 0 ∨ k = 1 ∨ k = 2 := by omega
    rcases h3 with rfl | rfl | rfl
    · clear h1 h2
      by_cases hx : x = 0
      · have hxb : (x != 0) = false := by simp [hx]
        have HX := Lib.hid hx
        clear hx
        go_wp2
        go_round
        case rel => exact ⟨1, by omega, fun _ => HX.out, by omega, rfl⟩
        case measure => simp [intOf]
      · have hxb : (x != 0) = true := by simp [hx]
        go_wp2
        go_ret
        exact ⟨ret_int (by unfold orN; rw [if_neg hx]), rfl⟩
    · have HX := Lib.hid (h1 (by omega))
      clear h1 h2
      by_cases hx : y = 0
      · have hxb : (y != 0) = false := by simp [hx]
        have HY := Lib.hid hx
        clear hx
        go_wp2
        go_round
        case rel => exact ⟨2, by omega, fun _ => HX.out, fun _ => HY.out, rfl⟩
        case measure => simp [intOf]
      · have hxb : (y != 0) = true := by simp [hx]
        go_wp2
        go_ret
        exact ⟨ret_int (by unfold orN; rw [if_pos HX.out]), rfl⟩
    · have HX := Lib.hid (h1 (by omega))
      have HY := Lib.hid (h2 (by omega))
      clear h1 h2
      go_wp2
      go_ret
      exact ⟨ret_int (by unfold orN; rw [if_pos HX.out, HY.out]), rfl⟩

theorem cmp_sides {k y i k' y' i' : Int} (g : Civ.good k y i = true) (g' : Civ.good k' y' i' = true) :
    orN (cmp3 (side k y i 0) (side k' y' i' 0)) (cmp3 (side k y i 1) (side k' y' i' 1)) = Civ.cmp k y i k' y' i' := by
  have e1 := side_first g
  have e2 := side_first g'
  have e3 := side_last g
  have e4 := side_last g'
  unfold orN Civ.cmp cmp3
  rw [if_pos (show Civ.good k y i = true ∧ Civ.good k' y' i' = true from And.intro g g')]
  generalize side k y i 0 = a at *
  generalize side k' y' i' 0 = b at *
  generalize side k y i 1 = c at *
  generalize side k' y' i' 1 = d at *
  rw [← e1, ← e2, ← e3, ← e4]
  by_cases h1 : a < b
  · simp [h1]
    try omega
  · by_cases h2 : b < a
    · simp [h1, h2]
      try omega
    · have : a = b := by omega
      subst this
      by_cases h3 : c < d
      · simp [h3]
      · by_cases h4 : d < c
        · simp [h4]
          try omega
        · simp [h3, h4]
/-- two periods in two blocks -/
def six (w : World) (k y i k' y' i' : Int) (w' : World) : Prop := (w'.cell? ⟨w.heap.size, 0, none⟩ = some (.int .i64 k) ∧ w'.cell? ⟨w.heap.size, 1, none⟩ = some (.int .i64 y) ∧ w'.cell? ⟨w.heap.size, 2, none⟩ = some (.int .i64 i)) ∧
  (w'.cell? ⟨w.heap.size + 1, 0, none⟩ = some (.int .i64 k') ∧ w'.cell? ⟨w.heap.size + 1, 1, none⟩ = some (.int .i64 y') ∧ w'.cell? ⟨w.heap.size + 1, 2, none⟩ = some (.int .i64 i')) ∧ w.heap.size + 1 < w'.heap.size ∧ Below w.heap.size w w'
theorem six_later {w w1 w2 : World} {k y i k' y' i' : Int} (h : six w k y i k' y' i' w1) (hb : Below w1.heap.size w1 w2) : six w k y i k' y' i' w2 := by
  obtain ⟨⟨a0, a1, a2⟩, ⟨b0, b1, b2⟩, g, B⟩ := h
  refine ⟨⟨?_, ?_, ?_⟩, ⟨?_, ?_, ?_⟩, Nat.lt_of_lt_of_le g hb.size, B.trans (hb.mono (by omega))⟩
  · rw [hb.cell (p := ⟨w.heap.size, 0, none⟩) (Nat.lt_of_succ_lt g)]; exact a0
  · rw [hb.cell (p := ⟨w.heap.size, 1, none⟩) (Nat.lt_of_succ_lt g)]; exact a1
  · rw [hb.cell (p := ⟨w.heap.size, 2, none⟩) (Nat.lt_of_succ_lt g)]; exact a2
  · rw [hb.cell (p := ⟨w.heap.size + 1, 0, none⟩) g]; exact b0
  · rw [hb.cell (p := ⟨w.heap.size + 1, 1, none⟩) g]; exact b1
  · rw [hb.cell (p := ⟨w.heap.size + 1, 2, none⟩) g]; exact b2
theorem six_drew {w w1 : World} {k y i k' y' i' : Int} (h : six w k y i k' y' i' w1) : six w k y i k' y' i' w1.drew := ⟨h.1, h.2.1, h.2.2.1, h.2.2.2.drew⟩
theorem six_first {w w1 : World} {k y i k' y' i' : Int} (hb : Below ((w.alloc (.cells #[.int .i64 k, .int .i64 y, .int .i64 i] 24)).alloc (.cells #[.int .i64 k', .int .i64 y', .int .i64 i'] 24)).heap.size ((w.alloc (.cells #[.int .i64 k, .int .i64 y, .int .i64 i] 24)).alloc (.cells #[.int .i64 k', .int .i64 y', .int .i64 i'] 24)) w1) : six w k y i k' y' i' w1 :=
  six_later (w1 := (w.alloc (.cells #[.int .i64 k, .int .i64 y, .int .i64 i] 24)).alloc (.cells #[.int .i64 k', .int .i64 y', .int .i64 i'] 24))
    ⟨⟨by simp [go_sem], by simp [go_sem], by simp [go_sem]⟩, ⟨by simp [go_sem], by simp [go_sem], by simp [go_sem]⟩, by simp, ((Below.refl _ _).alloc (Nat.le_refl _) _).alloc (by simp) _⟩ hb
theorem below_aa (w : World) (o o' : Obj) : Below w.heap.size w ((w.alloc o).alloc o') := ((Below.refl _ _).alloc (Nat.le_refl _) _).alloc (by simp) _
/-- what a period's sides are told from stands in blocks a, a + 1 -/
def Sd (W : World) (a : Nat) (k y i : Int) : Prop := W.cell? ⟨a, 1, none⟩ = some (.int .i64 y) ∧ W.cell? ⟨a, 2, none⟩ = some (.int .i64 i) ∧ W.cell? ⟨a + 1, 0, none⟩ = some (.int .i64 (kM k)) ∧ a + 1 < W.heap.size
theorem sd_later {W W' : World} {a : Nat} {k y i : Int} (h : Sd W a k y i) (hb : Below W.heap.size W W') : Sd W' a k y i := by
  obtain ⟨h1, h2, h3, h4⟩ := h
  exact ⟨by rw [hb.cell (p := ⟨a, 1, none⟩) (Nat.lt_of_succ_lt h4)]; exact h1, by rw [hb.cell (p := ⟨a, 2, none⟩) (Nat.lt_of_succ_lt h4)]; exact h2, by rw [hb.cell (p := ⟨a + 1, 0, none⟩) h4]; exact h3, Nat.lt_of_lt_of_le h4 hb.size⟩
theorem sd_made (k y i k' y' i' : Int) (w : World) :
    Sd ((((w.alloc (.cells #[.int .i64 k, .int .i64 y, .int .i64 i] 24)).alloc (.cells #[.int .i64 (kM k)] 3)).alloc (.cells #[.int .i64 k', .int .i64 y', .int .i64 i'] 24)).alloc (.cells #[.int .i64 (kM k')] 3)).drew w.heap.size k y i ∧
    Sd ((((w.alloc (.cells #[.int .i64 k, .int .i64 y, .int .i64 i] 24)).alloc (.cells #[.int .i64 (kM k)] 3)).alloc (.cells #[.int .i64 k', .int .i64 y', .int .i64 i'] 24)).alloc (.cells #[.int .i64 (kM k')] 3)).drew (w.heap.size + 1 + 1) k' y' i' := by
  have h1 : Sd ((w.alloc (.cells #[.int .i64 k, .int .i64 y, .int .i64 i] 24)).alloc (.cells #[.int .i64 (kM k)] 3)) w.heap.size k y i := ⟨by simp [go_sem], by simp [go_sem], by simp [go_sem], by simp⟩
  have h2 : ∀ W : World, Sd ((W.alloc (.cells #[.int .i64 k', .int .i64 y', .int .i64 i'] 24)).alloc (.cells #[.int .i64 (kM k')] 3)) W.heap.size k' y' i' := fun W => ⟨by simp [go_sem], by simp [go_sem], by simp [go_sem], by simp⟩
  have h3 := h2 ((w.alloc (.cells #[.int .i64 k, .int .i64 y, .int .i64 i] 24)).alloc (.cells #[.int .i64 (kM k)] 3))
  have e : ((w.alloc (.cells #[.int .i64 k, .int .i64 y, .int .i64 i] 24)).alloc (.cells #[.int .i64 (kM k)] 3)).heap.size = w.heap.size + 1 + 1 := by simp
  rw [e] at h3
  have h4 := sd_later h1 (below_aa _ (.cells #[.int .i64 k', .int .i64 y', .int .i64 i'] 24) (.cells #[.int .i64 (kM k')] 3))
  exact ⟨h4, h3⟩
theorem code_side_sd {W : World} {a : Nat} {k y i : Int} (s : Int) (h : Sd W a k y i) (g : Civ.good k y i = true) (s0 : 0 ≤ s) (s1 : s ≤ 1) :
    Calls Try.prog 64 #[.int .i64 s, .pointer (some ⟨a, 0, none⟩), .pointer (some ⟨a + 1, 0, none⟩)] W fun e w' => e = .returned (.int .i64 (side k y i s)) ∧ Below W.heap.size W w' :=
  code_side a (a + 1) k y i s W g s0 s1 h.1 h.2.1 h.2.2.1
theorem below_cmp {w w2 w3 w4 w5 w6 : World} (h : Below w.heap.size w w2) (h3 : Below w2.heap.size w2 w3) (h4 : Below w3.heap.size w3 w4) (h5 : Below w4.heap.size w4 w5) (h6 : Below w5.heap.size w5 w6) (o : Obj) : Below w.heap.size w (w6.alloc o) := by
  have s2 := h.size
  have s3 := h3.size
  have s4 := h4.size
  have s5 := h5.size
  have s6 := h6.size
  exact ((((h.trans (h3.mono s2)).trans (h4.mono (by omega))).trans (h5.mono (by omega))).trans (h6.mono (by omega))).alloc (by omega) _
set_option maxHeartbeats 2000000 in
theorem code_cmp_1 (k y i k' y' i' : Int) (w : World) (h : ¬ k = k') (g : Civ.good k y i = true) (g' : Civ.good k' y' i' = true) :
    Calls Try.prog 48 #[.agg #[.int .i64 k, .int .i64 y, .int .i64 i], .agg #[.int .i64 k', .int .i64 y', .int .i64 i']] w fun e w' => e = .returned (.int .i64 (Civ.cmp k y i k' y' i')) ∧ Below w.heap.size w w' := by
  have E := Lib.hid (cmp_sides g g')
  have G := Lib.hid g
  have G' := Lib.hid g'
  clear g g'
  go_enter Try.func48, Try.ntmps48
  go_wp2_with fail
  refine (code_good_at G.out _).mono ?_
  rintro e w1 ⟨rfl, hb1⟩
  obtain ⟨hc1, hf1⟩ := bcell hb1
  go_wp2_with fail
  refine (code_good_at G'.out _).mono ?_
  rintro e w2 ⟨rfl, hb2⟩
  obtain ⟨hc2, hf2⟩ := bcell hb2
  go_wp2_with fail
  have hS := six_later (six_first hb1) hb2
  clear hb1 hb2 hc1 hc2 hf1 hf2
  unfold six at hS
  go_region_held3 (fun w' => (w'.cell? ⟨w.heap.size, 0, none⟩ = some (.int .i64 k) ∧ w'.cell? ⟨w.heap.size, 1, none⟩ = some (.int .i64 y) ∧ w'.cell? ⟨w.heap.size, 2, none⟩ = some (.int .i64 i)) ∧ (w'.cell? ⟨w.heap.size + 1, 0, none⟩ = some (.int .i64 k') ∧ w'.cell? ⟨w.heap.size + 1, 1, none⟩ = some (.int .i64 y') ∧ w'.cell? ⟨w.heap.size + 1, 2, none⟩ = some (.int .i64 i')) ∧ w.heap.size + 1 < w'.heap.size ∧ Below w.heap.size w w')
    (first | exact six_later (by assumption) (below_aa _ _ _) | exact six_drew (by assumption))
    (first | (go_at_call 58; refine (code_border _ _ _ _).mono ?_; rintro e w3 ⟨rfl, rfl⟩))
  generalize hA : w2.heap.size = A
  have hH := sd_made k y i k' y' i' w2
  rw [hA] at hH
  obtain ⟨d1, d2⟩ := hH
  have hB : Below w.heap.size w ((((w2.alloc (.cells #[.int .i64 k, .int .i64 y, .int .i64 i] 24)).alloc (.cells #[.int .i64 (kM k)] 3)).alloc (.cells #[.int .i64 k', .int .i64 y', .int .i64 i'] 24)).alloc (.cells #[.int .i64 (kM k')] 3)).drew := ‹(_ ∧ _ ∧ _) ∧ (_ ∧ _ ∧ _) ∧ _ ∧ Below w.heap.size w _›.2.2.2
  generalize ((((w2.alloc (.cells #[.int .i64 k, .int .i64 y, .int .i64 i] 24)).alloc (.cells #[.int .i64 (kM k)] 3)).alloc (.cells #[.int .i64 k', .int .i64 y', .int .i64 i'] 24)).alloc (.cells #[.int .i64 (kM k')] 3)).drew = W at *
  have D1 := Lib.hid d1
  have D2 := Lib.hid d2
  clear hS hA d1 d2
  clear ‹(_ ∧ _ ∧ _) ∧ (_ ∧ _ ∧ _) ∧ _ ∧ Below w.heap.size w W›
  go_wp2_with fail
  refine (code_side_sd 0 D1.out G.out (by omega) (by omega)).mono ?_
  rintro e w3 ⟨rfl, hb3⟩
  go_wp2_with fail
  refine (code_side_sd 0 (sd_later D2.out hb3) G'.out (by omega) (by omega)).mono ?_
  rintro e w4 ⟨rfl, hb4⟩
  go_wp2_with fail
  refine (code_compare _ _ _).mono ?_
  rintro e w' ⟨rfl, rfl⟩
  go_wp2_with fail
  refine (code_side_sd 1 (sd_later (sd_later D1.out hb3) hb4) G.out (by omega) (by omega)).mono ?_
  rintro e w5 ⟨rfl, hb5⟩
  go_wp2_with fail
  refine (code_side_sd 1 (sd_later (sd_later (sd_later D2.out hb3) hb4) hb5) G'.out (by omega) (by omega)).mono ?_
  rintro e w6 ⟨rfl, hb6⟩
  go_wp2_with fail
  refine (code_compare _ _ _).mono ?_
  rintro e w' ⟨rfl, rfl⟩
  go_wp2_with fail
  refine (code_or (cmp3 (side k y i 0) (side k' y' i' 0)) (cmp3 (side k y i 1) (side k' y' i' 1)) _ _ (by simp [go_sem]) (by simp [go_sem])).mono ?_
  rintro e w' ⟨rfl, rfl⟩
  go_wp2_with fail
  go_ret
  exact ⟨ret_int E.out, below_cmp hB hb3 hb4 hb5 hb6 _⟩
set_option maxHeartbeats 2000000 in
theorem code_cmp_2 (k y i y' i' : Int) (w : World) (h : ¬ y = y') (g : Civ.good k y i = true) (g' : Civ.good k y' i' = true) :
    Calls Try.prog 48 #[.agg #[.int .i64 k, .int .i64 y, .int .i64 i], .agg #[.int .i64 k, .int .i64 y', .int .i64 i']] w fun e w' => e = .returned (.int .i64 (Civ.cmp k y i k y' i')) ∧ Below w.heap.size w w' := by
  have E := Lib.hid (cmp_sides g g')
  have G := Lib.hid g
  have G' := Lib.hid g'
  clear g g'
  go_enter Try.func48, Try.ntmps48
  go_wp2_with fail
  refine (code_good_at G.out _).mono ?_
  rintro e w1 ⟨rfl, hb1⟩
  obtain ⟨hc1, hf1⟩ := bcell hb1
  go_wp2_with fail
  refine (code_good_at G'.out _).mono ?_
  rintro e w2 ⟨rfl, hb2⟩
  obtain ⟨hc2, hf2⟩ := bcell hb2
  go_wp2_with fail
  have hS := six_later (six_first hb1) hb2
  clear hb1 hb2 hc1 hc2 hf1 hf2
  unfold six at hS
  go_region_held3 (fun w' => (w'.cell? ⟨w.heap.size, 0, none⟩ = some (.int .i64 k) ∧ w'.cell? ⟨w.heap.size, 1, none⟩ = some (.int .i64 y) ∧ w'.cell? ⟨w.heap.size, 2, none⟩ = some (.int .i64 i)) ∧ (w'.cell? ⟨w.heap.size + 1, 0, none⟩ = some (.int .i64 k) ∧ w'.cell? ⟨w.heap.size + 1, 1, none⟩ = some (.int .i64 y') ∧ w'.cell? ⟨w.heap.size + 1, 2, none⟩ = some (.int .i64 i')) ∧ w.heap.size + 1 < w'.heap.size ∧ Below w.heap.size w w')
    (first | exact six_later (by assumption) (below_aa _ _ _) | exact six_drew (by assumption))
    (first | (go_at_call 58; refine (code_border _ _ _ _).mono ?_; rintro e w3 ⟨rfl, rfl⟩))
  generalize hA : w2.heap.size = A
  have hH := sd_made k y i k y' i' w2
  rw [hA] at hH
  obtain ⟨d1, d2⟩ := hH
  have hB : Below w.heap.size w ((((w2.alloc (.cells #[.int .i64 k, .int .i64 y, .int .i64 i] 24)).alloc (.cells #[.int .i64 (kM k)] 3)).alloc (.cells #[.int .i64 k, .int .i64 y', .int .i64 i'] 24)).alloc (.cells #[.int .i64 (kM k)] 3)).drew := ‹(_ ∧ _ ∧ _) ∧ (_ ∧ _ ∧ _) ∧ _ ∧ Below w.heap.size w _›.2.2.2
  generalize ((((w2.alloc (.cells #[.int .i64 k, .int .i64 y, .int .i64 i] 24)).alloc (.cells #[.int .i64 (kM k)] 3)).alloc (.cells #[.int .i64 k, .int .i64 y', .int .i64 i'] 24)).alloc (.cells #[.int .i64 (kM k)] 3)).drew = W at *
  have D1 := Lib.hid d1
  have D2 := Lib.hid d2
  clear hS hA d1 d2
  clear ‹(_ ∧ _ ∧ _) ∧ (_ ∧ _ ∧ _) ∧ _ ∧ Below w.heap.size w W›
  go_wp2_with fail
  refine (code_side_sd 0 D1.out G.out (by omega) (by omega)).mono ?_
  rintro e w3 ⟨rfl, hb3⟩
  go_wp2_with fail
  refine (code_side_sd 0 (sd_later D2.out hb3) G'.out (by omega) (by omega)).mono ?_
  rintro e w4 ⟨rfl, hb4⟩
  go_wp2_with fail
  refine (code_compare _ _ _).mono ?_
  rintro e w' ⟨rfl, rfl⟩
  go_wp2_with fail
  refine (code_side_sd 1 (sd_later (sd_later D1.out hb3) hb4) G.out (by omega) (by omega)).mono ?_
  rintro e w5 ⟨rfl, hb5⟩
  go_wp2_with fail
  refine (code_side_sd 1 (sd_later (sd_later (sd_later D2.out hb3) hb4) hb5) G'.out (by omega) (by omega)).mono ?_
  rintro e w6 ⟨rfl, hb6⟩
  go_wp2_with fail
  refine (code_compare _ _ _).mono ?_
  rintro e w' ⟨rfl, rfl⟩
  go_wp2_with fail
  refine (code_or (cmp3 (side k y i 0) (side k y' i' 0)) (cmp3 (side k y i 1) (side k y' i' 1)) _ _ (by simp [go_sem]) (by simp [go_sem])).mono ?_
  rintro e w' ⟨rfl, rfl⟩
  go_wp2_with fail
  go_ret
  exact ⟨ret_int E.out, below_cmp hB hb3 hb4 hb5 hb6 _⟩
set_option maxHeartbeats 2000000 in
theorem code_cmp_3 (k y i i' : Int) (w : World) (h : ¬ i = i') (g : Civ.good k y i = true) (g' : Civ.good k y i' = true) :
    Calls Try.prog 48 #[.agg #[.int .i64 k, .int .i64 y, .int .i64 i], .agg #[.int .i64 k, .int .i64 y, .int .i64 i']] w fun e w' => e = .returned (.int .i64 (Civ.cmp k y i k y i')) ∧ Below w.heap.size w w' := by
  have E := Lib.hid (cmp_sides g g')
  have G := Lib.hid g
  have G' := Lib.hid g'
  clear g g'
  go_enter Try.func48, Try.ntmps48
  go_wp2_with fail
  refine (code_good_at G.out _).mono ?_
  rintro e w1 ⟨rfl, hb1⟩
  obtain ⟨hc1, hf1⟩ := bcell hb1
  go_wp2_with fail
  refine (code_good_at G'.out _).mono ?_
  rintro e w2 ⟨rfl, hb2⟩
  obtain ⟨hc2, hf2⟩ := bcell hb2
  go_wp2_with fail
  have hS := six_later (six_first hb1) hb2
  clear hb1 hb2 hc1 hc2 hf1 hf2
  unfold six at hS
  go_region_held3 (fun w' => (w'.cell? ⟨w.heap.size, 0, none⟩ = some (.int .i64 k) ∧ w'.cell? ⟨w.heap.size, 1, none⟩ = some (.int .i64 y) ∧ w'.cell? ⟨w.heap.size, 2, none⟩ = some (.int .i64 i)) ∧ (w'.cell? ⟨w.heap.size + 1, 0, none⟩ = some (.int .i64 k) ∧ w'.cell? ⟨w.heap.size + 1, 1, none⟩ = some (.int .i64 y) ∧ w'.cell? ⟨w.heap.size + 1, 2, none⟩ = some (.int .i64 i')) ∧ w.heap.size + 1 < w'.heap.size ∧ Below w.heap.size w w')
    (first | exact six_later (by assumption) (below_aa _ _ _) | exact six_drew (by assumption))
    (first | (go_at_call 58; refine (code_border _ _ _ _).mono ?_; rintro e w3 ⟨rfl, rfl⟩))
  generalize hA : w2.heap.size = A
  have hH := sd_made k y i k y i' w2
  rw [hA] at hH
  obtain ⟨d1, d2⟩ := hH
  have hB : Below w.heap.size w ((((w2.alloc (.cells #[.int .i64 k, .int .i64 y, .int .i64 i] 24)).alloc (.cells #[.int .i64 (kM k)] 3)).alloc (.cells #[.int .i64 k, .int .i64 y, .int .i64 i'] 24)).alloc (.cells #[.int .i64 (kM k)] 3)).drew := ‹(_ ∧ _ ∧ _) ∧ (_ ∧ _ ∧ _) ∧ _ ∧ Below w.heap.size w _›.2.2.2
  generalize ((((w2.alloc (.cells #[.int .i64 k, .int .i64 y, .int .i64 i] 24)).alloc (.cells #[.int .i64 (kM k)] 3)).alloc (.cells #[.int .i64 k, .int .i64 y, .int .i64 i'] 24)).alloc (.cells #[.int .i64 (kM k)] 3)).drew = W at *
  have D1 := Lib.hid d1
  have D2 := Lib.hid d2
  clear hS hA d1 d2
  clear ‹(_ ∧ _ ∧ _) ∧ (_ ∧ _ ∧ _) ∧ _ ∧ Below w.heap.size w W›
  go_wp2_with fail
  refine (code_side_sd 0 D1.out G.out (by omega) (by omega)).mono ?_
  rintro e w3 ⟨rfl, hb3⟩
  go_wp2_with fail
  refine (code_side_sd 0 (sd_later D2.out hb3) G'.out (by omega) (by omega)).mono ?_
  rintro e w4 ⟨rfl, hb4⟩
  go_wp2_with fail
  refine (code_compare _ _ _).mono ?_
  rintro e w' ⟨rfl, rfl⟩
  go_wp2_with fail
  refine (code_side_sd 1 (sd_later (sd_later D1.out hb3) hb4) G.out (by omega) (by omega)).mono ?_
  rintro e w5 ⟨rfl, hb5⟩
  go_wp2_with fail
  refine (code_side_sd 1 (sd_later (sd_later (sd_later D2.out hb3) hb4) hb5) G'.out (by omega) (by omega)).mono ?_
  rintro e w6 ⟨rfl, hb6⟩
  go_wp2_with fail
  refine (code_compare _ _ _).mono ?_
  rintro e w' ⟨rfl, rfl⟩
  go_wp2_with fail
  refine (code_or (cmp3 (side k y i 0) (side k y i' 0)) (cmp3 (side k y i 1) (side k y i' 1)) _ _ (by simp [go_sem]) (by simp [go_sem])).mono ?_
  rintro e w' ⟨rfl, rfl⟩
  go_wp2_with fail
  go_ret
  exact ⟨ret_int E.out, below_cmp hB hb3 hb4 hb5 hb6 _⟩
set_option maxHeartbeats 2000000 in
theorem code_cmp_same (k y i : Int) (w : World) :
    Calls Try.prog 48 #[.agg #[.int .i64 k, .int .i64 y, .int .i64 i], .agg #[.int .i64 k, .int .i64 y, .int .i64 i]] w fun e w' => e = .returned (.int .i64 0) ∧ Below w.heap.size w w' := by
  go_enter Try.func48, Try.ntmps48
  go_wp2
  all_goals
    go_ret
    exact ⟨rfl, below_aa _ _ _⟩
theorem below_aa2 {w : World} {o o' : Obj} {w1 : World} (hb : Below ((w.alloc o).alloc o').heap.size ((w.alloc o).alloc o') w1) : Below w.heap.size w w1 :=
  (below_aa w o o').trans (hb.mono (by simp; omega))
theorem below_tr2 {w w1 w2 : World} (h : Below w.heap.size w w1) (h2 : Below w1.heap.size w1 w2) : Below w.heap.size w w2 := h.trans (h2.mono h.size)
set_option maxHeartbeats 1000000 in
theorem code_cmp_a1 (k y i k' y' i' : Int) (w : World) (h : ¬ k = k') (g : Civ.good k y i = false) :
    Calls Try.prog 48 #[.agg #[.int .i64 k, .int .i64 y, .int .i64 i], .agg #[.int .i64 k', .int .i64 y', .int .i64 i']] w fun e w' => e = .returned (.int .i64 0) ∧ Below w.heap.size w w' := by
  have G := Lib.hid g
  clear g
  go_enter Try.func48, Try.ntmps48
  go_wp2_with fail
  refine (code_good_at G.out _).mono ?_
  rintro e w1 ⟨rfl, hb1⟩
  obtain ⟨hc1, hf1⟩ := bcell hb1
  go_wp2
  go_ret
  exact ⟨rfl, below_aa2 hb1⟩
set_option maxHeartbeats 1000000 in
theorem code_cmp_b1 (k y i k' y' i' : Int) (w : World) (h : ¬ k = k') (g : Civ.good k y i = true) (g' : Civ.good k' y' i' = false) :
    Calls Try.prog 48 #[.agg #[.int .i64 k, .int .i64 y, .int .i64 i], .agg #[.int .i64 k', .int .i64 y', .int .i64 i']] w fun e w' => e = .returned (.int .i64 0) ∧ Below w.heap.size w w' := by
  have G := Lib.hid g
  have G' := Lib.hid g'
  clear g g'
  go_enter Try.func48, Try.ntmps48
  go_wp2_with fail
  refine (code_good_at G.out _).mono ?_
  rintro e w1 ⟨rfl, hb1⟩
  obtain ⟨hc1, hf1⟩ := bcell hb1
  go_wp2_with fail
  refine (code_good_at G'.out _).mono ?_
  rintro e w2 ⟨rfl, hb2⟩
  go_wp2
  go_ret
  exact ⟨rfl, below_tr2 (below_aa2 hb1) hb2⟩
set_option maxHeartbeats 1000000 in
theorem code_cmp_a2 (k y i y' i' : Int) (w : World) (h : ¬ y = y') (g : Civ.good k y i = false) :
    Calls Try.prog 48 #[.agg #[.int .i64 k, .int .i64 y, .int .i64 i], .agg #[.int .i64 k, .int .i64 y', .int .i64 i']] w fun e w' => e = .returned (.int .i64 0) ∧ Below w.heap.size w w' := by
  have G := Lib.hid g
  clear g
  go_enter Try.func48, Try.ntmps48
  go_wp2_with fail
  refine (code_good_at G.out _).mono ?_
  rintro e w1 ⟨rfl, hb1⟩
  obtain ⟨hc1, hf1⟩ := bcell hb1
  go_wp2
  go_ret
  exact ⟨rfl, below_aa2 hb1⟩
set_option maxHeartbeats 1000000 in
theorem code_cmp_b2 (k y i y' i' : Int) (w : World) (h : ¬ y = y') (g : Civ.good k y i = true) (g' : Civ.good k y' i' = false) :
    Calls Try.prog 48 #[.agg #[.int .i64 k, .int .i64 y, .int .i64 i], .agg #[.int .i64 k, .int .i64 y', .int .i64 i']] w fun e w' => e = .returned (.int .i64 0) ∧ Below w.heap.size w w' := by
  have G := Lib.hid g
  have G' := Lib.hid g'
  clear g g'
  go_enter Try.func48, Try.ntmps48
  go_wp2_with fail
  refine (code_good_at G.out _).mono ?_
  rintro e w1 ⟨rfl, hb1⟩
  obtain ⟨hc1, hf1⟩ := bcell hb1
  go_wp2_with fail
  refine (code_good_at G'.out _).mono ?_
  rintro e w2 ⟨rfl, hb2⟩
  go_wp2
  go_ret
  exact ⟨rfl, below_tr2 (below_aa2 hb1) hb2⟩
set_option maxHeartbeats 1000000 in
theorem code_cmp_a3 (k y i i' : Int) (w : World) (h : ¬ i = i') (g : Civ.good k y i = false) :
    Calls Try.prog 48 #[.agg #[.int .i64 k, .int .i64 y, .int .i64 i], .agg #[.int .i64 k, .int .i64 y, .int .i64 i']] w fun e w' => e = .returned (.int .i64 0) ∧ Below w.heap.size w w' := by
  have G := Lib.hid g
  clear g
  go_enter Try.func48, Try.ntmps48
  go_wp2_with fail
  refine (code_good_at G.out _).mono ?_
  rintro e w1 ⟨rfl, hb1⟩
  obtain ⟨hc1, hf1⟩ := bcell hb1
  go_wp2
  go_ret
  exact ⟨rfl, below_aa2 hb1⟩
set_option maxHeartbeats 1000000 in
theorem code_cmp_b3 (k y i i' : Int) (w : World) (h : ¬ i = i') (g : Civ.good k y i = true) (g' : Civ.good k y i' = false) :
    Calls Try.prog 48 #[.agg #[.int .i64 k, .int .i64 y, .int .i64 i], .agg #[.int .i64 k, .int .i64 y, .int .i64 i']] w fun e w' => e = .returned (.int .i64 0) ∧ Below w.heap.size w w' := by
  have G := Lib.hid g
  have G' := Lib.hid g'
  clear g g'
  go_enter Try.func48, Try.ntmps48
  go_wp2_with fail
  refine (code_good_at G.out _).mono ?_
  rintro e w1 ⟨rfl, hb1⟩
  obtain ⟨hc1, hf1⟩ := bcell hb1
  go_wp2_with fail
  refine (code_good_at G'.out _).mono ?_
  rintro e w2 ⟨rfl, hb2⟩
  go_wp2
  go_ret
  exact ⟨rfl, below_tr2 (below_aa2 hb1) hb2⟩
theorem cmp_no {k y i k' y' i' : Int} (h : ¬ (Civ.good k y i = true ∧ Civ.good k' y' i' = true)) : Civ.cmp k y i k' y' i' = 0 := by
  unfold Civ.cmp; rw [if_neg h]
theorem code_cmp (k y i k' y' i' : Int) (w : World) :
    Calls Try.prog 48 #[.agg #[.int .i64 k, .int .i64 y, .int .i64 i], .agg #[.int .i64 k', .int .i64 y', .int .i64 i']] w fun e w' => e = .returned (.int .i64 (Civ.cmp k y i k' y' i')) ∧ Below w.heap.size w w' := by
  by_cases g : Civ.good k y i = true
  · by_cases g' : Civ.good k' y' i' = true
    · by_cases h1 : k = k'
      · subst h1
        by_cases h2 : y = y'
        · subst h2
          by_cases h3 : i = i'
          · subst h3
            rw [Civ.cmp_self]; exact code_cmp_same k y i w
          · exact code_cmp_3 k y i i' w h3 g g'
        · exact code_cmp_2 k y i y' i' w h2 g g'
      · exact code_cmp_1 k y i k' y' i' w h1 g g'
    · rw [cmp_no (fun h => g' h.2)]
      have g' : Civ.good k' y' i' = false := by simpa using g'
      by_cases h1 : k = k'
      · subst h1
        by_cases h2 : y = y'
        · subst h2
          by_cases h3 : i = i'
          · subst h3
            exact code_cmp_same k y i w
          · exact code_cmp_b3 k y i i' w h3 g g'
        · exact code_cmp_b2 k y i y' i' w h2 g g'
      · exact code_cmp_b1 k y i k' y' i' w h1 g g'
  · rw [cmp_no (fun h => g h.1)]
    have g : Civ.good k y i = false := by simpa using g
    by_cases h1 : k = k'
    · subst h1
      by_cases h2 : y = y'
      · subst h2
        by_cases h3 : i = i'
        · subst h3
          exact code_cmp_same k y i w
        · exact code_cmp_a3 k y i i' w h3 g
      · exact code_cmp_a2 k y i y' i' w h2 g
    · exact code_cmp_a1 k y i k' y' i' w h1 g
end Go.Proofs.Ytdacpiegfobhbaa
