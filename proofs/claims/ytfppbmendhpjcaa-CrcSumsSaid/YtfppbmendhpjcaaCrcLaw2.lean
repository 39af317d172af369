/- The statements on sums and on joins, walked. -/
import Derived.Test.YtfppbmendhpjcaaCrcLaw
import Derived.Test.YtfppbmendhpjcaaTxt2
namespace Go.Proofs.Ytfppbmendhpjcaa
open Go.RowKit

theorem below_tr {B : Nat} {a b c : World} (h : Below B a b) (k : Below b.heap.size b c) (hB : B ≤ a.heap.size) : Below B a c := h.trans (k.mono (Nat.le_trans hB h.size))

set_option maxHeartbeats 1000000 in
theorem crcSums_any (s : Crc.Reg) (l : Text) (A : Option Addr) (cap : Nat) (w : World) (hm : l.length ≤ 9223372036854775807) (hT : Txt w A l) :
    Calls Try.prog 8 #[.int .u32 (reg s), .slice A l.length cap] w fun e w' => e = .returned (.bool true) ∧ Below w.heap.size w w' := by
  have HT := Lib.hid hT
  clear hT
  by_cases hbig : 20000 < l.length
  · go_enter Try.func8, Try.ntmps8
    go_wp2_with (go_at_call 33; refine (lives_any _).mono ?_; rintro e w1 ⟨rfl, hb1⟩)
    go_ret
    exact ⟨rfl, hb1⟩
  · go_enter Try.func8, Try.ntmps8
    go_wp2_with (first
      | (go_at_call 34; refine (code_on s l A cap w (by omega) HT.out).mono ?_; rintro e w1 ⟨rfl, hb1⟩; have HT1 := Lib.hid (HT.out.below hb1); have HB1 := Lib.hid hb1; clear hb1)
      | (go_at_call 35; refine (ref_on s l A cap _ (by omega) HT1.out).mono ?_; rintro e w' ⟨rfl, rfl⟩)
      | (go_at_call 36; refine (code_sum l A cap w1 (by omega) HT1.out).mono ?_; rintro e w2 ⟨rfl, hb2⟩; have HT2 := Lib.hid (HT1.out.below hb2); have HB2 := Lib.hid (below_tr HB1.out hb2 (Nat.le_refl _)); clear hb2)
      | (go_at_call 37; refine (ref_sum l A cap _ (by omega) HT2.out).mono ?_; rintro e w' ⟨rfl, rfl⟩)
      | (go_at_call 33; refine (lives_any _).mono ?_; rintro e w4 ⟨rfl, hb4⟩))
    go_ret
    exact ⟨rfl, below_tr HB2.out hb4 (Nat.le_refl _)⟩

theorem seven : (7 : Int) = reg 7#32 := rfl
theorem sumT_append (l m : Text) : Crc.sumT (l ++ m) = Crc.steps (8 * m.length) (Crc.sumT l) ^^^ Crc.sumT m := by
  unfold Crc.sumT
  rw [Crc.bv_append, Crc.sum_append, Crc.bv_length]

/-- what Join answers, be the number what it may -/
def joinN (x y : Crc.Reg) (n : Int) : Int := if 0 ≤ n ∧ n ≤ 1048576 then reg (Crc.steps (8 * n.toNat) x ^^^ y) else 0
theorem code_joinN (x y : Crc.Reg) (n : Int) (w : World) :
    Calls Try.prog 38 #[.int .u32 (reg x), .int .u32 (reg y), .int .i64 n] w fun e w' => e = .returned (.int .u32 (joinN x y n)) ∧ w = w' := by
  unfold joinN
  by_cases h : 0 ≤ n ∧ n ≤ 1048576
  · rw [if_pos h]
    have := code_join x y n.toNat w (by omega)
    rw [Int.toNat_of_nonneg h.1] at this
    exact this
  · rw [if_neg h]
    exact code_join_no x y n w (by omega)
theorem ref_joinN (x y : Crc.Reg) (n : Int) (w : World) :
    Calls Try.prog 39 #[.int .u32 (reg x), .int .u32 (reg y), .int .i64 n] w fun e w' => e = .returned (.int .u32 (joinN x y n)) ∧ w = w' := by
  unfold joinN
  by_cases h : 0 ≤ n ∧ n ≤ 1048576
  · rw [if_pos h]
    exact ref_join x y n w h.1 h.2
  · rw [if_neg h]
    exact ref_join_no x y n w (by omega)

set_option maxHeartbeats 4000000 in
theorem crcJoins_small (l m : Text) (A B : Option Addr) (c d : Nat) (x : Crc.Reg) (n : Int) (w : World) (hl : l.length ≤ 20000) (hm : m.length ≤ 20000) (hn : n ≤ 20000 ∨ 1048576 < n) (hT : Txt w A l) (hU : Txt w B m) (hA : A = none → l = []) (hB : B = none → m = []) :
    Calls Try.prog 9 #[.slice A l.length c, .slice B m.length d, .int .u32 (reg x), .int .i64 n] w fun e w' => e = .returned (.bool true) ∧ Below w.heap.size w w' := by
  have HT := Lib.hid hT
  have HU := Lib.hid hU
  have HA := Lib.hid hA
  have HB := Lib.hid hB
  have HO := Lib.hid (empty_own w)
  have HB0 := Lib.hid ((Below.refl w.heap.size w).alloc (Nat.le_refl _) (.cells #[] 5))
  obtain ⟨K, hK⟩ : ∃ K, K = l ++ m := ⟨_, rfl⟩
  have HK := Lib.hid hK
  have hKl : K.length ≤ 40000 := by rw [hK, List.length_append]; omega
  clear hK
  have HJ : Hid (∀ W, Calls Try.prog 38 #[.int .u32 (reg (Crc.sumT l)), .int .u32 (reg (Crc.sumT m)), .int .i64 m.length] W fun e w' => e = .returned (.int .u32 (reg (Crc.sumT K))) ∧ W = w') := Lib.hid (fun W => by
    have := code_join (Crc.sumT l) (Crc.sumT m) m.length W (by omega)
    rw [← sumT_append, ← HK.out] at this
    exact this)
  have HJ7 : Hid (∀ W, Calls Try.prog 38 #[.int .u32 (reg x), .int .u32 7, .int .i64 n] W fun e w' => e = .returned (.int .u32 (joinN x 7#32 n)) ∧ W = w') := Lib.hid (fun W => code_joinN x 7#32 n W)
  have HR7 : Hid (∀ W, Calls Try.prog 39 #[.int .u32 (reg x), .int .u32 7, .int .i64 n] W fun e w' => e = .returned (.int .u32 (joinN x 7#32 n)) ∧ W = w') := Lib.hid (fun W => ref_joinN x 7#32 n W)
  clear hT hU hA hB
  rcases hn with hn | hn
  all_goals
    go_enter Try.func9, Try.ntmps9
    go_wp2_with (first
      | (refine wpList_append_own_text (o := ⟨some 29, _, _, _, _, _⟩) rfl _ _ rfl rfl w.heap.size w _ [] l l rfl HO.out A c rfl (HT.out.alloc _) HA.out ?c1 HB0.out (by simp) rfl ?_; (case c1 => simp; omega); intro v1 w1 hown1 hb1 hv1; have HO1 := Lib.hid hown1; have HB1 := Lib.hid hb1; clear hown1 hb1 hv1)
      | (refine wpList_append_own_text (o := ⟨some 31, _, _, _, _, _⟩) rfl _ _ rfl rfl w.heap.size w v1 l m K rfl HO1.out B d rfl (HU.out.below HB1.out) HB.out ?c2 HB1.out HB1.out.size HK.out ?_; (case c2 => omega); intro v2 w2 hown2 hb2 hv2; obtain ⟨A2, c2, rfl, ht2, hn2⟩ := own_txt hown2; have HT2 := Lib.hid ht2; have HN2 := Lib.hid hn2; have HB2 := Lib.hid hb2; clear hown2 hb2 hv2 ht2 hn2)
      | (go_at_call 36; ((with_reducible refine (code_sum l A c w2 ?c3 ?c4).mono ?_); (case c3 => omega); (case c4 => exact HT.out.below HB2.out); rintro e w3 ⟨rfl, hb3⟩; have HT3 := Lib.hid (HT2.out.below hb3); have HB3 := Lib.hid (below_tr HB2.out hb3 (Nat.le_refl _)); clear hb3))
      | (go_at_call 36; ((with_reducible refine (code_sum m B d w3 ?c5 ?c6).mono ?_); (case c5 => omega); (case c6 => exact HU.out.below HB3.out); rintro e w4 ⟨rfl, hb4⟩; have HT4 := Lib.hid (HT3.out.below hb4); have HB4 := Lib.hid (below_tr HB3.out hb4 (Nat.le_refl _)); clear hb4))
      | (go_at_call 38; ((with_reducible refine (HJ.out _).mono ?_); rintro e w' ⟨rfl, rfl⟩))
      | (go_at_call 36; ((with_reducible refine (code_sum K A2 c2 w4 ?c7 ?c8).mono ?_); (case c7 => omega); (case c8 => exact HT4.out); rintro e w5 ⟨rfl, hb5⟩; have HB5 := Lib.hid (below_tr HB4.out hb5 (Nat.le_refl _)); clear hb5))
      | (go_at_call 38; ((with_reducible refine (HJ7.out _).mono ?_); rintro e w' ⟨rfl, rfl⟩))
      | (go_at_call 39; ((with_reducible refine (HR7.out _).mono ?_); rintro e w' ⟨rfl, rfl⟩))
      | (go_at_call 33; refine (lives_any _).mono ?_; rintro e w6 ⟨rfl, hb6⟩))
    go_ret
    exact ⟨rfl, below_tr HB5.out hb6 (Nat.le_refl _)⟩

theorem crcJoins_big (l m : Text) (A B : Option Addr) (c d : Nat) (x : Crc.Reg) (n : Int) (w : World) (hl : l.length ≤ 9223372036854775807) (hm : m.length ≤ 9223372036854775807) (h : 20000 < l.length ∨ (l.length ≤ 20000 ∧ 20000 < m.length) ∨ (l.length ≤ 20000 ∧ m.length ≤ 20000 ∧ 20000 < n ∧ n ≤ 1048576)) :
    Calls Try.prog 9 #[.slice A l.length c, .slice B m.length d, .int .u32 (reg x), .int .i64 n] w fun e w' => e = .returned (.bool true) ∧ Below w.heap.size w w' := by
  rcases h with h | ⟨h1, h⟩ | ⟨h1, h2, h3, h4⟩
  all_goals
    go_enter Try.func9, Try.ntmps9
    go_wp2_with (go_at_call 33; refine (lives_any _).mono ?_; rintro e w1 ⟨rfl, hb1⟩)
    go_ret
    exact ⟨rfl, hb1⟩
theorem crcJoins_any (l m : Text) (A B : Option Addr) (c d : Nat) (x : Crc.Reg) (n : Int) (w : World) (hl : l.length ≤ 9223372036854775807) (hm : m.length ≤ 9223372036854775807) (hT : Txt w A l) (hU : Txt w B m) (hA : A = none → l = []) (hB : B = none → m = []) :
    Calls Try.prog 9 #[.slice A l.length c, .slice B m.length d, .int .u32 (reg x), .int .i64 n] w fun e w' => e = .returned (.bool true) ∧ Below w.heap.size w w' := by
  by_cases h : 20000 < l.length ∨ (l.length ≤ 20000 ∧ 20000 < m.length) ∨ (l.length ≤ 20000 ∧ m.length ≤ 20000 ∧ 20000 < n ∧ n ≤ 1048576)
  · exact crcJoins_big l m A B c d x n w hl hm h
  · exact crcJoins_small l m A B c d x n w (by omega) (by omega) (by omega) hT hU hA hB
end Go.Proofs.Ytfppbmendhpjcaa
