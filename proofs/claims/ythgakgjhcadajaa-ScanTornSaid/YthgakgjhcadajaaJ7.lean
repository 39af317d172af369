/- What each function of the document's own answers for check sums gives. What the program's own functions on sums give: Sum, Join, the sum's bytes, Wrap; a slice copied. -/
import Derived.Test.YthgakgjhcadajaaJ6
import Derived.Lib.LazyBuf
namespace Go.Proofs.Ythgakgjhcadajaa
open Go.RowKit
set_option maxRecDepth 100000


set_option maxRecDepth 100000 in
set_option maxHeartbeats 1000000 in
theorem ref_on (s : Crc.Reg) (l : Text) (A : Option Addr) (cap : Nat) (w : World) (hm : l.length ≤ 140737488355328) (hT : Txt w A l) :
    Calls Try.prog 81 #[.int .u32 (reg s), .slice A l.length cap] w fun e w' => e = .returned (.int .u32 (reg (onT s l))) ∧ w = w' := by
  obtain ⟨X0, hA⟩ : ∃ A, A = s ^^^ BitVec.allOnes 32 := ⟨_, rfl⟩
  have HS : Hid (bits .xor .u32 (reg s) 4294967295 = reg X0) := Lib.hid ((reg_xor s (BitVec.allOnes 32)).trans (by rw [hA]))
  have HE : Hid (bits .xor .u32 (reg (bytesT X0 l)) 4294967295 = reg (onT s l)) := Lib.hid ((reg_xor (bytesT X0 l) (BitVec.allOnes 32)).trans (by rw [onT_eq, hA]))
  have HT := Lib.hid hT
  clear hT hA
  go_enter Try.func81, Try.ntmps81
  go_wp2
  rw [HS.out]
  go_loop [5, 6] (fun x i => ∃ k : Nat, k ≤ l.length ∧ i = .int .i64 k ∧ x = .int .u32 (reg (bytesT X0 (l.take k)))) (fun _ i => l.length - (intOf i).toNat)
  case atStart => exact ⟨0, Nat.zero_le _, rfl, rfl⟩
  case round =>
    obtain ⟨k, hk, rfl, rfl⟩ := hrel
    by_cases hlt : k < l.length
    · obtain ⟨a, rfl, _, hcell⟩ := HT.out.at_ hlt
      have HN := Lib.hid (bytes_next X0 l k hlt)
      generalize hX : bytesT X0 (l.take k) = X at *
      clear hX
      obtain ⟨c, hc⟩ : ∃ c, c = l[k] := ⟨_, rfl⟩
      rw [← hc] at hcell HN
      have HX : Hid (bits .xor .u32 (reg X) (((c.toNat : Nat) : Int) % (4294967296 : Int)) = reg (X ^^^ c.toBitVec.setWidth 32)) := Lib.hid (by rw [byte_mod, reg_byte, reg_xor])
      clear hc
      go_wp2
      rw [HX.out]
      generalize hY : X ^^^ c.toBitVec.setWidth 32 = Y at *
      clear hY HX
      go_loop [5, 7] (fun x i => ∃ j : Nat, j ≤ 8 ∧ i = .int .i64 j ∧ x = .int .u32 (reg (Crc.steps j Y))) (fun _ i => 8 - (intOf i).toNat)
      case atStart => exact ⟨0, by omega, rfl, rfl⟩
      case round =>
        obtain ⟨j, hj, rfl, rfl⟩ := hrel
        by_cases hl8 : j < 8
        · have HJ := Lib.hid (steps_next j Y)
          go_wp2_with (go_at_call 91; refine (ref_step _ _).mono ?_; rintro e w' ⟨rfl, rfl⟩)
          go_round
          case rel => exact ⟨j + 1, by omega, by go_num, by rw [HJ.out]⟩
          case measure => simp [intOf]; omega
        · obtain rfl : j = 8 := by omega
          go_wp2
          go_round
          case rel => exact ⟨k + 1, by omega, by go_num, by rw [HN.out]⟩
          case measure => simp [intOf]; omega
    · obtain rfl : k = l.length := by omega
      go_wp2
      go_ret
      exact ⟨ret_int (by rw [← HE.out]), rfl⟩
theorem sum_zero (l : Text) : onT 0#32 l = Crc.sumT l := rfl
theorem reg_nought : reg 0#32 = 0 := rfl
set_option maxHeartbeats 400000 in
theorem ref_sum (l : Text) (A : Option Addr) (cap : Nat) (w : World) (hm : l.length ≤ 140737488355328) (hT : Txt w A l) :
    Calls Try.prog 57 #[.slice A l.length cap] w fun e w' => e = .returned (.int .u32 (reg (Crc.sumT l))) ∧ w = w' := by
  have H := ref_on 0#32 l A cap w hm hT
  rw [sum_zero, reg_nought] at H
  have HT := Lib.hid H
  clear H hT
  go_enter Try.func57, Try.ntmps57
  go_wp2_with (go_at_call 81; refine HT.out.mono ?_; rintro e w' ⟨rfl, rfl⟩)
  go_ret
  exact ⟨rfl, rfl⟩

/-- a sum's bytes, as the shifts make them -/
theorem byte24 (x : Crc.Reg) : reg x / (16777216 : Int) % (256 : Int) = (((⟨(x >>> 24).setWidth 8⟩ : UInt8).toNat : Nat) : Int) := by
  show _ = ((((x >>> 24).setWidth 8).toNat : Nat) : Int)
  unfold reg; rw [BitVec.toNat_setWidth, BitVec.toNat_ushiftRight, Nat.shiftRight_eq_div_pow]; omega
theorem byte16 (x : Crc.Reg) : reg x / (65536 : Int) % (256 : Int) = (((⟨(x >>> 16).setWidth 8⟩ : UInt8).toNat : Nat) : Int) := by
  show _ = ((((x >>> 16).setWidth 8).toNat : Nat) : Int)
  unfold reg; rw [BitVec.toNat_setWidth, BitVec.toNat_ushiftRight, Nat.shiftRight_eq_div_pow]; omega
theorem byte8 (x : Crc.Reg) : reg x / (256 : Int) % (256 : Int) = (((⟨(x >>> 8).setWidth 8⟩ : UInt8).toNat : Nat) : Int) := by
  show _ = ((((x >>> 8).setWidth 8).toNat : Nat) : Int)
  unfold reg; rw [BitVec.toNat_setWidth, BitVec.toNat_ushiftRight, Nat.shiftRight_eq_div_pow]; omega
theorem byte0 (x : Crc.Reg) : reg x % (256 : Int) = (((⟨x.setWidth 8⟩ : UInt8).toNat : Nat) : Int) := by
  show _ = (((x.setWidth 8).toNat : Nat) : Int)
  unfold reg; rw [BitVec.toNat_setWidth]; omega
/-- a sum's bytes as cells -/
def fourCells (x : Crc.Reg) : Array Value := #[.int .u8 (reg x / (16777216 : Int) % (256 : Int)), .int .u8 (reg x / (65536 : Int) % (256 : Int)), .int .u8 (reg x / (256 : Int) % (256 : Int)), .int .u8 (reg x % (256 : Int))]
theorem four_cells (x : Crc.Reg) : (fourCells x).toList = (Crc.four x).map cellOf := by
  unfold fourCells Crc.four cellOf
  rw [byte24, byte16, byte8, byte0]; rfl

theorem four_own (x : Crc.Reg) (w : World) : (w.alloc (.cells (fourCells x) 5)).ownsRow w.heap.size 5 1 (.slice (some ⟨w.heap.size, 0, none⟩) 4 4) 4 ((Crc.four x).map cellOf) := by
  rw [← four_cells]
  exact World.ownsRow_lit w (fourCells x) 4 (Nat.le_refl _) (by unfold maxLen; omega) rfl
/-- a new slice of the call's own, that reads as l -/
def Made (w : World) (l : Text) (e : Ending) (w' : World) : Prop :=
  ∃ g c, e = .returned (.slice (some ⟨g, 0, none⟩) l.length c) ∧ w'.ownsRow w.heap.size 5 1 (.slice (some ⟨g, 0, none⟩) l.length c) l.length (l.map cellOf) ∧ Below w.heap.size w w'
/-- a sum's bytes, and a text behind them -/
def wrapT (l : Text) : Text := Crc.four (Crc.sumT l) ++ l
theorem wrapT_length (l : Text) : (wrapT l).length = 4 + l.length := by simp [wrapT, Crc.four]; omega

theorem made_of {w w1 w' : World} {l : Text} {g : Nat} {v v' : Value} {n c : Nat} (hg0 : v = .slice (some ⟨g, 0, none⟩) n c) (hB0 : w.heap.size ≤ g) (hl : 0 < l.length)
    (hown : w'.ownsRow w.heap.size 5 1 v' l.length (l.map cellOf)) (hb : Below w.heap.size w w1) (hg : w1.grownBy w' v.ownBlock) : Made w l (.returned v') w' := by
  obtain ⟨g', c', rfl, _, _⟩ := hown.form hl
  refine ⟨g', c', rfl, hown, hb.grown hg hb.size fun k hk => ?_⟩
  subst hg0
  simp [Value.ownBlock] at hk
  omega

set_option maxHeartbeats 1000000 in
theorem ref_wrap (l : Text) (A : Option Addr) (cap : Nat) (w : World) (hm : l.length ≤ 140737488351232) (hT : Txt w A l) (hA : A = none → l = []) :
    Calls Try.prog 83 #[.slice A l.length cap] w (Made w (wrapT l)) := by
  have HS := Lib.hid (ref_sum l A cap w (by omega) hT)
  have HT := Lib.hid (hT.alloc (.cells (fourCells (Crc.sumT l)) 5))
  have HO := Lib.hid (four_own (Crc.sumT l) w)
  have HN := Lib.hid hA
  clear hT hA
  go_enter Try.func83, Try.ntmps83
  go_wp2_with (first | (go_at_call 57; refine HS.out.mono ?_; rintro e w' ⟨rfl, rfl⟩) | (at_builtin; refine wpList_append_text rfl _ _ rfl rfl w.heap.size _ 4 ((Crc.four (Crc.sumT l)).map cellOf) rfl HO.out A cap l rfl HT.out HN.out (by omega) (by simp) ?_; intro v' w' hown hg hat))
  go_ret
  exact made_of rfl (Nat.le_refl _) (by rw [wrapT_length]; omega) (by rw [wrapT_length]; simpa [wrapT] using hown) ((Below.refl _ _).alloc (Nat.le_refl _) _) hg
end Go.Proofs.Ythgakgjhcadajaa

namespace Go.Proofs.Ythgakgjhcadajaa
open Go.RowKit
set_option maxRecDepth 100000

set_option maxHeartbeats 400000 in
theorem code_sum (l : Text) (A : Option Addr) (cap : Nat) (w : World) (hm : l.length ≤ 140737488355328) (hT : Txt w A l) :
    Calls Try.prog 84 #[.slice A l.length cap] w fun e w' => e = .returned (.int .u32 (reg (Crc.sumT l))) ∧ Below w.heap.size w w' := by
  have H := code_on 0#32 l A cap w hm hT
  rw [sum_zero, reg_nought] at H
  have HT := Lib.hid H
  clear H hT
  go_enter Try.func84, Try.ntmps84
  go_wp2_with (go_at_call 92; refine HT.out.mono ?_; rintro e w1 ⟨rfl, hb1⟩)
  go_ret
  exact ⟨rfl, hb1⟩

theorem mul_add (p q : Nat) : Crc.mul (Crc.steps p Crc.one) (Crc.steps q Crc.one) = Crc.steps (q + p) Crc.one := by
  rw [Crc.mul_steps, ← Crc.steps_add]
theorem steps_same {p q : Nat} (x : Crc.Reg) (h : p = q) : Crc.steps p x = Crc.steps q x := by rw [h]
theorem one_reg : (2147483648 : Int) = reg (Crc.steps 0 Crc.one) := rfl
theorem eight_reg : (8388608 : Int) = reg (Crc.steps (8 * 1) Crc.one) := by decide +kernel

theorem four_length (x : Crc.Reg) : (Crc.four x).length = 4 := rfl
set_option maxHeartbeats 400000 in
theorem code_sumBytes (l : Text) (A : Option Addr) (cap : Nat) (w : World) (hm : l.length ≤ 140737488355328) (hT : Txt w A l) :
    Calls Try.prog 98 #[.slice A l.length cap] w (Made w (Crc.four (Crc.sumT l))) := by
  have HS := Lib.hid (code_sum l A cap w hm hT)
  clear hT
  go_enter Try.func98, Try.ntmps98
  go_wp2_with (go_at_call 84; refine HS.out.mono ?_; rintro e w1 ⟨rfl, hb1⟩)
  go_ret
  have ho := four_own (Crc.sumT l) w1
  exact ⟨_, 4, rfl, ⟨ho.1, by
    rcases ho.2 with h | ⟨g, c, cur, h1, h2, h3⟩
    · exact .inl h
    · exact .inr ⟨g, c, cur, h1, Nat.le_trans hb1.size h2, h3⟩⟩, hb1.alloc hb1.size _⟩

set_option maxHeartbeats 1000000 in
theorem code_wrap (l : Text) (A : Option Addr) (cap : Nat) (w : World) (hm : l.length ≤ 140737488351232) (hT : Txt w A l) (hA : A = none → l = []) :
    Calls Try.prog 95 #[.slice A l.length cap] w (Made w (wrapT l)) := by
  have HS := Lib.hid (code_sumBytes l A cap w (by omega) hT)
  have HT := Lib.hid hT
  have HN := Lib.hid hA
  clear hT hA
  go_enter Try.func95, Try.ntmps95
  go_wp2_with (first | (go_at_call 98; refine HS.out.mono ?_; rintro e w1 ⟨g1, c1, rfl, ho1, hb1⟩; have HO := Lib.hid ho1; clear ho1) | (at_builtin; refine wpList_append_text rfl _ _ rfl rfl w.heap.size _ 4 ((Crc.four (Crc.sumT l)).map cellOf) rfl HO.out A cap l rfl (HT.out.below hb1) HN.out (by omega) hb1.size ?_; intro v' w' hown hg hat))
  go_ret
  exact made_of rfl (HO.out.lt _ rfl).1 (by rw [wrapT_length]; omega) (by rw [wrapT_length]; simpa [wrapT] using hown) hb1 hg

theorem made_of2 {w w1 w' : World} {l : Text} {g : Nat} {v v' : Value} {n c : Nat} (hg0 : v = .slice (some ⟨g, 0, none⟩) n c) (hB0 : w.heap.size ≤ g) (hl : v'.ownBlock ≠ none)
    (hown : w'.ownsRow w.heap.size 5 1 v' l.length (l.map cellOf)) (hb : Below w.heap.size w w1) (hg : w1.grownBy w' v.ownBlock) : Made w l (.returned v') w' := by
  rcases hown.2 with ⟨rfl, _⟩ | ⟨g', c', cur, rfl, h3⟩
  · exact absurd rfl hl
  · refine ⟨g', c', rfl, hown, hb.grown hg hb.size fun k hk => ?_⟩
    subst hg0
    simp [Value.ownBlock] at hk
    omega
end Go.Proofs.Ythgakgjhcadajaa
