/- What the program's own functions on sums give: Sum, Join, the sum's bytes, Wrap; a slice copied. -/
import Derived.Test.YthgpdfdijcabeaaCrcTab
import Derived.Test.YthgpdfdijcabeaaCrcRef
import Derived.Lib.LazyBuf
namespace Go.Proofs.Ythgpdfdijcabeaa
open Go.RowKit
set_option maxRecDepth 100000

set_option maxHeartbeats 400000 in
theorem code_sum (l : Text) (A : Option Addr) (cap : Nat) (w : World) (hm : l.length ≤ 140737488355328) (hT : Txt w A l) :
    Calls Try.prog 60 #[.slice A l.length cap] w fun e w' => e = .returned (.int .u32 (reg (Crc.sumT l))) ∧ Below w.heap.size w w' := by
  have H := code_on 0#32 l A cap w hm hT
  rw [sum_zero, reg_nought] at H
  have HT := Lib.hid H
  clear H hT
  go_enter Try.func60, Try.ntmps60
  go_wp2_with (go_at_call 89; refine HT.out.mono ?_; rintro e w1 ⟨rfl, hb1⟩)
  go_ret
  exact ⟨rfl, hb1⟩

theorem mul_add (p q : Nat) : Crc.mul (Crc.steps p Crc.one) (Crc.steps q Crc.one) = Crc.steps (q + p) Crc.one := by
  rw [Crc.mul_steps, ← Crc.steps_add]
theorem steps_same {p q : Nat} (x : Crc.Reg) (h : p = q) : Crc.steps p x = Crc.steps q x := by rw [h]
theorem one_reg : (2147483648 : Int) = reg (Crc.steps 0 Crc.one) := rfl
theorem eight_reg : (8388608 : Int) = reg (Crc.steps (8 * 1) Crc.one) := by decide +kernel

theorem four_length (x : Crc.Reg) : (Crc.four x).length = 4 := rfl
set_option maxHeartbeats 400000 in
theorem code_sumBytes (l : Text) (A : Option Addr) (cap : Nat) (w : World) (hm : l.length ≤ 140737488355328) (hT : Txt w A l) :
    Calls Try.prog 106 #[.slice A l.length cap] w (Made w (Crc.four (Crc.sumT l))) := by
  have HS := Lib.hid (code_sum l A cap w hm hT)
  clear hT
  go_enter Try.func106, Try.ntmps106
  go_wp2_with (go_at_call 60; refine HS.out.mono ?_; rintro e w1 ⟨rfl, hb1⟩)
  go_ret
  have ho := four_own (Crc.sumT l) w1
  exact ⟨_, 4, rfl, ⟨ho.1, by
    rcases ho.2 with h | ⟨g, c, cur, h1, h2, h3⟩
    · exact .inl h
    · exact .inr ⟨g, c, cur, h1, Nat.le_trans hb1.size h2, h3⟩⟩, hb1.alloc hb1.size _⟩

set_option maxHeartbeats 1000000 in
theorem code_wrap (l : Text) (A : Option Addr) (cap : Nat) (w : World) (hm : l.length ≤ 140737488351232) (hT : Txt w A l) (hA : A = none → l = []) :
    Calls Try.prog 101 #[.slice A l.length cap] w (Made w (wrapT l)) := by
  have HS := Lib.hid (code_sumBytes l A cap w (by omega) hT)
  have HT := Lib.hid hT
  have HN := Lib.hid hA
  clear hT hA
  go_enter Try.func101, Try.ntmps101
  go_wp2_with (first | (go_at_call 106; refine HS.out.mono ?_; rintro e w1 ⟨g1, c1, rfl, ho1, hb1⟩; have HO := Lib.hid ho1; clear ho1) | (at_builtin; refine wpList_append_text rfl _ _ rfl rfl w.heap.size _ 4 ((Crc.four (Crc.sumT l)).map cellOf) rfl HO.out A cap l rfl (HT.out.below hb1) HN.out (by omega) hb1.size ?_; intro v' w' hown hg hat))
  go_ret
  exact made_of rfl (HO.out.lt _ rfl).1 (by rw [wrapT_length]; omega) (by rw [wrapT_length]; simpa [wrapT] using hown) hb1 hg

theorem made_of2 {w w1 w' : World} {l : Text} {g : Nat} {v v' : Value} {n c : Nat} (hg0 : v = .slice (some ⟨g, 0, none⟩) n c) (hB0 : w.heap.size ≤ g) (hl : v'.ownBlock ≠ none)
    (hown : w'.ownsRow w.heap.size 5 1 v' l.length (l.map cellOf)) (hb : Below w.heap.size w w1) (hg : w1.grownBy w' v.ownBlock) : Made w l (.returned v') w' := by
  rcases hown.2 with ⟨rfl, _⟩ | ⟨g', c', cur, rfl, h3⟩
  · exact absurd rfl hl
  · refine ⟨g', c', rfl, hown, hb.grown hg hb.size fun k hk => ?_⟩
    subst hg0
    simp [Value.ownBlock] at hk
    omega
end Go.Proofs.Ythgpdfdijcabeaa
