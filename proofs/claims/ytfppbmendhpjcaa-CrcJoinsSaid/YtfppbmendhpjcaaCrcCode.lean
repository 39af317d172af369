/- What the program's own functions on sums give: Sum, Join, the sum's bytes, Wrap; a slice copied. -/
import Derived.Test.YtfppbmendhpjcaaCrcTab
import Derived.Test.YtfppbmendhpjcaaCrcRef
import Derived.Lib.LazyBuf
namespace Go.Proofs.Ytfppbmendhpjcaa
open Go.RowKit

set_option maxHeartbeats 400000 in
theorem code_sum (l : Text) (A : Option Addr) (cap : Nat) (w : World) (hm : l.length ≤ 140737488355328) (hT : Txt w A l) :
    Calls Try.prog 36 #[.slice A l.length cap] w fun e w' => e = .returned (.int .u32 (reg (Crc.sumT l))) ∧ Below w.heap.size w w' := by
  have H := code_on 0#32 l A cap w hm hT
  rw [sum_zero, reg_nought] at H
  have HT := Lib.hid H
  clear H hT
  go_enter Try.func36, Try.ntmps36
  go_wp2_with (go_at_call 34; refine HT.out.mono ?_; rintro e w1 ⟨rfl, hb1⟩)
  go_ret
  exact ⟨rfl, hb1⟩

theorem mul_add (p q : Nat) : Crc.mul (Crc.steps p Crc.one) (Crc.steps q Crc.one) = Crc.steps (q + p) Crc.one := by
  rw [Crc.mul_steps, ← Crc.steps_add]
theorem steps_same {p q : Nat} (x : Crc.Reg) (h : p = q) : Crc.steps p x = Crc.steps q x := by rw [h]
theorem one_reg : (2147483648 : Int) = reg (Crc.steps 0 Crc.one) := rfl
theorem eight_reg : (8388608 : Int) = reg (Crc.steps (8 * 1) Crc.one) := by decide +kernel

set_option maxRecDepth 100000 in
set_option maxHeartbeats 1000000 in
theorem code_join (x y : Crc.Reg) (n : Nat) (w : World) (h : n ≤ 1048576) :
    Calls Try.prog 38 #[.int .u32 (reg x), .int .u32 (reg y), .int .i64 n] w fun e w' => e = .returned (.int .u32 (reg (Crc.steps (8 * n) x ^^^ y))) ∧ w = w' := by
  go_enter Try.func38, Try.ntmps38
  go_wp2
  rw [one_reg, eight_reg]
  go_loop [2, 7, 8] (fun m p s => ∃ a b c : Nat, m = .int .i64 a ∧ a ≤ 1048576 ∧ p = .int .u32 (reg (Crc.steps (8 * b) Crc.one)) ∧ s = .int .u32 (reg (Crc.steps (8 * c) Crc.one)) ∧ Hid (n = b + a * c)) (fun m _ _ => (intOf m).toNat)
  case atStart => exact ⟨n, 0, 1, rfl, h, rfl, rfl, Lib.hid (by omega)⟩
  case round =>
    obtain ⟨a, b, c, rfl, ha, rfl, rfl, HN⟩ := hrel
    by_cases hz : 0 < a
    · have HC : Hid (Crc.mul (Crc.steps (8 * c) Crc.one) (Crc.steps (8 * c) Crc.one) = Crc.steps (8 * (2 * c)) Crc.one) := Lib.hid (by rw [mul_add]; exact steps_same _ (by omega))
      by_cases ho : a % 2 = 1
      · have HB : Hid (Crc.mul (Crc.steps (8 * b) Crc.one) (Crc.steps (8 * c) Crc.one) = Crc.steps (8 * (b + c)) Crc.one) := Lib.hid (by rw [mul_add]; exact steps_same _ (by omega))
        have ht : ((a : Int) % 2 == 1) = true := by simp; omega
        have HA : Hid (n = b + c + a / 2 * (2 * c)) := Lib.hid (by
          rw [HN.out]
          have e : a = 2 * (a / 2) + 1 := by omega
          have : a * c = (2 * (a / 2) + 1) * c := by rw [← e]
          rw [this, Nat.add_mul, Nat.mul_comm 2 (a / 2), Nat.mul_assoc, Nat.one_mul]; omega)
        have HQ : Hid ((a : Int) / 2 = ((a / 2 : Nat) : Int)) := Lib.hid (by omega)
        clear ho
        go_wp2_with (go_at_call 60; refine (code_times _ _ _).mono ?_; rintro e w' ⟨rfl, rfl⟩)
        go_round
        case rel => exact ⟨a / 2, b + c, 2 * c, by rw [HQ.out], by omega, by rw [HB.out], by rw [HC.out], HA⟩
        case measure => simp [intOf]; omega
      · have ht : ((a : Int) % 2 == 1) = false := by simp; omega
        have HA : Hid (n = b + a / 2 * (2 * c)) := Lib.hid (by
          rw [HN.out]
          have e : a = 2 * (a / 2) := by omega
          have : a * c = (2 * (a / 2)) * c := by rw [← e]
          rw [this, Nat.mul_comm 2 (a / 2), Nat.mul_assoc])
        have HQ : Hid ((a : Int) / 2 = ((a / 2 : Nat) : Int)) := Lib.hid (by omega)
        clear ho
        go_wp2_with (go_at_call 60; refine (code_times _ _ _).mono ?_; rintro e w' ⟨rfl, rfl⟩)
        go_round
        case rel => exact ⟨a / 2, b, 2 * c, by rw [HQ.out], by omega, rfl, by rw [HC.out], HA⟩
        case measure => simp [intOf]; omega
    · obtain rfl : a = 0 := by omega
      have HM : Hid (bits .xor .u32 (reg (Crc.mul (Crc.steps (8 * b) Crc.one) x)) (reg y) = reg (Crc.steps (8 * n) x ^^^ y)) := Lib.hid (by
        have hn := HN.out
        rw [reg_xor, Crc.mul_steps, steps_same x (show 8 * b = 8 * n by omega)])
      go_wp2_with (go_at_call 60; refine (code_times _ _ _).mono ?_; rintro e w' ⟨rfl, rfl⟩)
      go_ret
      exact ⟨ret_int (by rw [HM.out]), rfl⟩
theorem code_join_no (x y : Crc.Reg) (n : Int) (w : World) (h : n < 0 ∨ 1048576 < n) :
    Calls Try.prog 38 #[.int .u32 (reg x), .int .u32 (reg y), .int .i64 n] w fun e w' => e = .returned (.int .u32 0) ∧ w = w' := by
  rcases h with h | h
  all_goals
    go_enter Try.func38, Try.ntmps38
    go_wp2
    go_ret
    exact ⟨rfl, rfl⟩

theorem four_length (x : Crc.Reg) : (Crc.four x).length = 4 := rfl
set_option maxHeartbeats 400000 in
theorem code_sumBytes (l : Text) (A : Option Addr) (cap : Nat) (w : World) (hm : l.length ≤ 140737488355328) (hT : Txt w A l) :
    Calls Try.prog 61 #[.slice A l.length cap] w (Made w (Crc.four (Crc.sumT l))) := by
  have HS := Lib.hid (code_sum l A cap w hm hT)
  clear hT
  go_enter Try.func61, Try.ntmps61
  go_wp2_with (go_at_call 36; refine HS.out.mono ?_; rintro e w1 ⟨rfl, hb1⟩)
  go_ret
  have ho := four_own (Crc.sumT l) w1
  exact ⟨_, 4, rfl, ⟨ho.1, by
    rcases ho.2 with h | ⟨g, c, cur, h1, h2, h3⟩
    · exact .inl h
    · exact .inr ⟨g, c, cur, h1, Nat.le_trans hb1.size h2, h3⟩⟩, hb1.alloc hb1.size _⟩

set_option maxHeartbeats 1000000 in
theorem code_wrap (l : Text) (A : Option Addr) (cap : Nat) (w : World) (hm : l.length ≤ 140737488351232) (hT : Txt w A l) (hA : A = none → l = []) :
    Calls Try.prog 40 #[.slice A l.length cap] w (Made w (wrapT l)) := by
  have HS := Lib.hid (code_sumBytes l A cap w (by omega) hT)
  have HT := Lib.hid hT
  have HN := Lib.hid hA
  clear hT hA
  go_enter Try.func40, Try.ntmps40
  go_wp2_with (first | (go_at_call 61; refine HS.out.mono ?_; rintro e w1 ⟨g1, c1, rfl, ho1, hb1⟩; have HO := Lib.hid ho1; clear ho1) | (at_builtin; refine wpList_append_text rfl _ _ rfl rfl w.heap.size _ 4 ((Crc.four (Crc.sumT l)).map cellOf) rfl HO.out A cap l rfl (HT.out.below hb1) HN.out (by omega) hb1.size ?_; intro v' w' hown hg hat))
  go_ret
  exact made_of rfl (HO.out.lt _ rfl).1 (by rw [wrapT_length]; omega) (by rw [wrapT_length]; simpa [wrapT] using hown) hb1 hg

theorem made_of2 {w w1 w' : World} {l : Text} {g : Nat} {v v' : Value} {n c : Nat} (hg0 : v = .slice (some ⟨g, 0, none⟩) n c) (hB0 : w.heap.size ≤ g) (hl : v'.ownBlock ≠ none)
    (hown : w'.ownsRow w.heap.size 5 1 v' l.length (l.map cellOf)) (hb : Below w.heap.size w w1) (hg : w1.grownBy w' v.ownBlock) : Made w l (.returned v') w' := by
  rcases hown.2 with ⟨rfl, _⟩ | ⟨g', c', cur, rfl, h3⟩
  · exact absurd rfl hl
  · refine ⟨g', c', rfl, hown, hb.grown hg hb.size fun k hk => ?_⟩
    subst hg0
    simp [Value.ownBlock] at hk
    omega
set_option maxHeartbeats 1000000 in
theorem code_clone (l : Text) (a : Addr) (cap : Nat) (w : World) (hm : l.length ≤ 140737488351232) (hT : Txt w (some a) l) :
    Calls Try.prog 47 #[.slice (some a) l.length cap] w (Made w l) := by
  have HT := Lib.hid (hT.alloc (.cells #[] 5))
  have HO := Lib.hid (World.ownsRow_lit (base := w.heap.size) (e := 5) (size := 1) w #[] 0 (Nat.le_refl _) (by unfold maxLen; omega) rfl)
  have hnil := fun W : World => Lib.run_eql_slice_nil (P := Try.prog) W 27 5 (some a) l.length cap 0 0 Try.underlying27
  clear hT
  go_enter Try.func47, Try.ntmps47
  go_wp2_with (at_builtin; refine wpList_append_text rfl _ _ rfl rfl w.heap.size _ 0 [] rfl HO.out (some a) cap l rfl HT.out (by simp) (by omega) (by simp) ?_; intro v' w' hown hg hat)
  go_ret
  exact made_of2 rfl (Nat.le_refl _) (fun hno => hat.elim (fun h => absurd (show some w.heap.size = none from h.symm.trans hno) (by simp)) (fun h => absurd (h.symm.trans hno) (by simp))) (by simpa using hown) ((Below.refl _ _).alloc (Nat.le_refl _) _) hg
end Go.Proofs.Ytfppbmendhpjcaa
