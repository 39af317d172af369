/- The statement on a batch's sectors, walked. -/
import Derived.Test.YthgpdfdijcabeaaTapeX
namespace Go.Proofs.Ythgpdfdijcabeaa
open Go.RowKit
set_option maxRecDepth 100000

theorem pages_need (s : Nat) (l : Text) (h3 : 1 ≤ l.length) (h4 : l.length ≤ 131072) : needV l.length = ((pagesT s l).length : Int) := by
  rw [pagesT_len]
  unfold needV manyC
  rw [if_neg (by omega)]
  omega
set_option maxHeartbeats 1000000 in
theorem pages_lives (s : Int) (l : Text) (A : Option Addr) (c : Nat) (n : Int) (w : World) (h : 5000 < l.length) :
    Calls Try.prog 3 #[.int .i64 s, .slice A l.length c, .int .i64 n] w fun e w' => e = .returned (.bool true) ∧ Below w.heap.size w w' := by
  have HL := Lib.hid (tape_lives w)
  have i1 : (5000 : Int) < (l.length : Int) := by omega
  go_enter Try.func3, Try.ntmps3
  go_wp2_with (go_at_call 15; refine HL.out.mono ?_; rintro e w1 ⟨rfl, hb1⟩)
  go_ret
  exact ⟨rfl, hb1⟩
theorem same_nil (w : World) : Calls Try.prog 18 #[.slice none 0 0, .slice none 0 0] w fun e w' => e = .returned (.bool true) ∧ Below w.heap.size w w' :=
  ref_same [] [] none none 0 0 w (fun i h => absurd h (Nat.not_lt_zero i)) (fun i h => absurd h (Nat.not_lt_zero i)) (by simp)
set_option maxHeartbeats 1000000 in
theorem pages_none (s : Int) (l : Text) (A : Option Addr) (c : Nat) (n : Int) (w : World) (h1 : l.length ≤ 5000) (hT : Txt w A l) (hh : headOk s l.length = false) :
    Calls Try.prog 3 #[.int .i64 s, .slice A l.length c, .int .i64 n] w fun e w' => e = .returned (.bool true) ∧ Below w.heap.size w w' := by
  have HP := Lib.hid (code_pages_no s l A c w hh)
  have HQ : Hid (∀ W, Txt W A l → Calls Try.prog 17 #[.int .i64 s, .slice A l.length c] W fun e w' => e = .returned (.tuple #[.slice none 0 0, .int .i64 2]) ∧ Below W.heap.size W w') := Lib.hid (fun W h => ref_pages_no s l A c W (by omega) h hh)
  have HT := Lib.hid hT
  obtain ⟨m, hm⟩ : ∃ m, m = needV n := ⟨_, rfl⟩
  have HN : Hid (∀ W, Calls Try.prog 19 #[.int .i64 n] W fun e w' => e = .returned (.int .i64 m) ∧ W = w') := Lib.hid (fun W => by rw [hm]; exact code_need n W)
  have HM : Hid (∀ W, Calls Try.prog 20 #[.int .i64 n] W fun e w' => e = .returned (.int .i64 m) ∧ W = w') := Lib.hid (fun W => by rw [hm]; exact ref_need n W)
  have i1 : (l.length : Int) ≤ 5000 := by omega
  clear hT hh hm
  go_enter Try.func3, Try.ntmps3
  go_wp2_with (go_at_call 16; refine HP.out.mono ?_; rintro e w1 ⟨rfl, hb1⟩; have HB1 := Lib.hid hb1; have HT1 := Lib.hid (HT.out.below hb1); clear hb1; refine Stop.out ?_)
  unfold Stop
  go_wp2_with (go_at_call 17; refine (HQ.out _ HT1.out).mono ?_; rintro e w2 ⟨rfl, hb2⟩; have HB2 := Lib.hid (below_then HB1.out hb2); clear hb2; refine Stop.out ?_)
  unfold Stop
  go_wp2_with (go_at_call 18; refine (same_nil _).mono ?_; rintro e w3 ⟨rfl, hb3⟩; have HB3 := Lib.hid (below_then HB2.out hb3); clear hb3; refine Stop.out ?_)
  unfold Stop
  go_wp2_with (go_at_call 19; refine (HN.out _).mono ?_; rintro e w4 ⟨rfl, rfl⟩; refine Stop.out ?_)
  unfold Stop
  go_wp2_with (go_at_call 20; refine (HM.out _).mono ?_; rintro e w5 ⟨rfl, rfl⟩; refine Stop.out ?_)
  unfold Stop
  go_wp2_with (go_at_call 15; refine (tape_lives _).mono ?_; rintro e w6 ⟨rfl, hb6⟩; have HB6 := Lib.hid (below_then HB3.out hb6); clear hb6; refine Stop.out ?_)
  unfold Stop
  go_wp2
  go_ret
  exact ⟨rfl, HB6.out⟩
set_option maxHeartbeats 1000000 in
theorem pages_yes (s : Nat) (l : Text) (A : Option Addr) (c : Nat) (n : Int) (w : World) (h1 : 1 ≤ s) (h2 : s ≤ 4611686018427387904) (h3 : 1 ≤ l.length) (h4 : l.length ≤ 5000) (hc : l.length ≤ c) (hT : Txt w A l) :
    Calls Try.prog 3 #[.int .i64 s, .slice A l.length c, .int .i64 n] w fun e w' => e = .returned (.bool true) ∧ Below w.heap.size w w' := by
  have hlen : (pagesT s l).length ≤ 100000 := by rw [pagesT_len]; unfold manyC; omega
  have HNl : Hid (∀ W, Calls Try.prog 19 #[.int .i64 l.length] W fun e w' => e = .returned (.int .i64 ((pagesT s l).length : Int)) ∧ W = w') := Lib.hid (fun W => by rw [← pages_need s l h3 (by omega)]; exact code_need l.length W)
  have HP : Hid (Calls Try.prog 16 #[.int .i64 s, .slice A l.length c] w (fun e w' => ∃ g c', e = .returned (.tuple #[.slice (some ⟨g, 0, none⟩) (pagesT s l).length c', .int .i64 0]) ∧ TextRows w' (some ⟨g, 0, none⟩) (pagesT s l) ∧ Below w.heap.size w w')) := Lib.hid (by
    refine (code_pagesR s l A c w h1 h2 h3 (by omega) hc hT).mono ?_
    rintro e w' ⟨g, c1, rfl, ho, _, hb⟩
    rw [← pagesT_len s l] at ho ⊢
    exact ⟨g, c1, rfl, ho.rows rfl, hb⟩)
  have HQ : Hid (∀ W, Txt W A l → Calls Try.prog 17 #[.int .i64 s, .slice A l.length c] W (fun e w' => ∃ g c', e = .returned (.tuple #[.slice (some ⟨g, 0, none⟩) (pagesT s l).length c', .int .i64 0]) ∧ TextRows w' (some ⟨g, 0, none⟩) (pagesT s l) ∧ Below W.heap.size W w')) := Lib.hid (fun W h => by
    refine (ref_pages_yes s l A c W h1 h2 h3 (by omega) hc h).mono ?_
    rintro e w' ⟨g, c1, rfl, ho, hb⟩
    exact ⟨g, c1, rfl, ho.rows rfl, hb⟩)
  obtain ⟨L, hL⟩ : ∃ L, L = pagesT s l := ⟨_, rfl⟩
  rw [← hL] at hlen HNl HP HQ
  have HS : Hid (∀ W g c' g2 c2, TextRows W (some ⟨g, 0, none⟩) L → TextRows W (some ⟨g2, 0, none⟩) L → Calls Try.prog 18 #[.slice (some ⟨g, 0, none⟩) L.length c', .slice (some ⟨g2, 0, none⟩) L.length c2] W fun e w' => e = .returned (.bool true) ∧ Below W.heap.size W w') := Lib.hid (fun W g c' g2 c2 ha hb => by
    have := ref_same L L (some ⟨g, 0, none⟩) (some ⟨g2, 0, none⟩) c' c2 W ha hb hlen
    rwa [decide_eq_true rfl] at this)
  have HT := Lib.hid hT
  obtain ⟨m, hm⟩ : ∃ m, m = needV n := ⟨_, rfl⟩
  have HN : Hid (∀ W, Calls Try.prog 19 #[.int .i64 n] W fun e w' => e = .returned (.int .i64 m) ∧ W = w') := Lib.hid (fun W => by rw [hm]; exact code_need n W)
  have HM : Hid (∀ W, Calls Try.prog 20 #[.int .i64 n] W fun e w' => e = .returned (.int .i64 m) ∧ W = w') := Lib.hid (fun W => by rw [hm]; exact ref_need n W)
  have i1 : (l.length : Int) ≤ 5000 := by omega
  clear hT hm hL hlen h1 h2 h3 h4 hc
  go_enter Try.func3, Try.ntmps3
  go_wp2_with (go_at_call 16; refine HP.out.mono ?_; rintro e w1 ⟨g1, c1, rfl, hr1, hb1⟩; have HR1 := Lib.hid hr1; have HB1 := Lib.hid hb1; have HT1 := Lib.hid (HT.out.below hb1); clear hb1 hr1; refine Stop.out ?_)
  unfold Stop
  go_wp2_with (go_at_call 17; refine (HQ.out _ HT1.out).mono ?_; rintro e w2 ⟨g2, c2, rfl, hr2, hb2⟩; have HR2 := Lib.hid hr2; have HR3 := Lib.hid (HR1.out.below hb2); have HB2 := Lib.hid (below_then HB1.out hb2); clear hb2 hr2; refine Stop.out ?_)
  unfold Stop
  go_wp2_with (go_at_call 18; refine (HS.out _ _ _ _ _ HR3.out HR2.out).mono ?_; rintro e w3 ⟨rfl, hb3⟩; have HB3 := Lib.hid (below_then HB2.out hb3); clear hb3; refine Stop.out ?_)
  unfold Stop
  go_wp2_with (go_at_call 19; refine (HNl.out _).mono ?_; rintro e w4 ⟨rfl, rfl⟩; refine Stop.out ?_)
  unfold Stop
  go_wp2_with (go_at_call 19; refine (HN.out _).mono ?_; rintro e w4 ⟨rfl, rfl⟩; refine Stop.out ?_)
  unfold Stop
  go_wp2_with (go_at_call 20; refine (HM.out _).mono ?_; rintro e w5 ⟨rfl, rfl⟩; refine Stop.out ?_)
  unfold Stop
  go_wp2_with (go_at_call 15; refine (tape_lives _).mono ?_; rintro e w6 ⟨rfl, hb6⟩; have HB6 := Lib.hid (below_then HB3.out hb6); clear hb6; refine Stop.out ?_)
  unfold Stop
  go_wp2
  go_ret
  exact ⟨rfl, HB6.out⟩
theorem tapePages_any (s : Int) (l : Text) (A : Option Addr) (c : Nat) (n : Int) (w : World) (hl : l.length ≤ c) (hT : Txt w A l) :
    Calls Try.prog 3 #[.int .i64 s, .slice A l.length c, .int .i64 n] w fun e w' => e = .returned (.bool true) ∧ Below w.heap.size w w' := by
  by_cases h1 : 5000 < l.length
  · exact pages_lives s l A c n w h1
  · rcases Bool.eq_false_or_eq_true (headOk s l.length) with hh | hh
    · have hx : seqOk s = true ∧ 0 < needV l.length := by unfold headOk at hh; simpa using hh
      obtain ⟨s1, s2⟩ := (seqOk_iff s).1 hx.1
      have hn : 1 ≤ l.length := by
        have := hx.2
        unfold needV at this
        by_cases hc2 : (l.length : Int) < 1 ∨ 131072 < (l.length : Int)
        · rw [if_pos hc2] at this; omega
        · omega
      obtain ⟨S, rfl⟩ : ∃ S : Nat, s = S := ⟨s.toNat, by omega⟩
      exact pages_yes S l A c n w (by omega) (by omega) hn (by omega) hl hT
    · exact pages_none s l A c n w (by omega) hT hh
end Go.Proofs.Ythgpdfdijcabeaa
