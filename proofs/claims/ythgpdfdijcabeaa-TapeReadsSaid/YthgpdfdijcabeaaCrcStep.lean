/- What the registers' steps give: the document's own and the program's. -/
import Derived.Test.YthgpdfdijcabeaaTxt
import Derived.Test.YthgpdfdijcabeaaCrcMath2
import Derived.Laws.BitsAllLaws
import Derived.Deep.LoopGhost
namespace Go.Proofs.Ythgpdfdijcabeaa
open Go.RowKit
set_option maxRecDepth 100000

/-- a register as a number -/
def reg (x : Crc.Reg) : Int := (x.toNat : Int)
theorem reg_bd (x : Crc.Reg) : 0 ≤ reg x ∧ reg x < 4294967296 := by unfold reg; have := x.isLt; omega
theorem reg_odd (x : Crc.Reg) : (reg x % (2 : Int) = 1 ↔ x.getLsbD 0 = true) := by
  unfold reg
  rw [BitVec.getLsbD, Nat.testBit_zero]
  simp only [decide_eq_true_eq]
  omega
theorem reg_half (x : Crc.Reg) : reg x / (2 : Int) = reg (x >>> 1) := by
  unfold reg
  rw [BitVec.toNat_ushiftRight, Nat.shiftRight_succ, Nat.shiftRight_zero]
  omega
theorem reg_xor (x y : Crc.Reg) : bits .xor .u32 (reg x) (reg y) = reg (x ^^^ y) := by
  unfold reg
  rw [u32_xor_nat _ _ x.isLt y.isLt, BitVec.toNat_xor]

set_option maxHeartbeats 400000 in
theorem ref_step (x : Crc.Reg) (w : World) :
    Calls Try.prog 103 #[.int .u32 (reg x)] w fun e w' => e = .returned (.int .u32 (reg (Crc.step x))) ∧ w = w' := by
  obtain ⟨h0, h1⟩ := reg_bd x
  by_cases hb : x.getLsbD 0 = true
  · have ht : (reg x % 2 == 1) = true := by rw [(reg_odd x).2 hb]; rfl
    have HV : Hid (bits .xor .u32 (reg x / 2) 3988292384 = reg (Crc.step x)) := by
      rw [reg_half]
      exact Lib.hid ((reg_xor (x >>> 1) Crc.poly).trans (by unfold Crc.step; rw [hb]; rfl))
    clear hb
    go_enter Try.func103, Try.ntmps103
    go_wp2
    go_ret
    exact ⟨ret_int HV.out, rfl⟩
  · have ht : (reg x % 2 == 1) = false := by
      have : ¬ reg x % 2 = 1 := fun h => hb ((reg_odd x).1 h)
      simp [this]
    have HV : Hid (reg x / 2 = reg (Crc.step x)) := by
      rw [reg_half]
      exact Lib.hid (by rw [Crc.step_shift (by simpa using hb)])
    clear hb
    go_enter Try.func103, Try.ntmps103
    go_wp2
    go_ret
    exact ⟨ret_int HV.out, rfl⟩

theorem reg_byte (c : UInt8) : ((c.toNat : Nat) : Int) = reg (c.toBitVec.setWidth 32) := by
  unfold reg
  rw [BitVec.toNat_setWidth, UInt8.toNat_toBitVec, Nat.mod_eq_of_lt (by have := c.toNat_lt; omega)]
theorem take_next {α : Type} (l : List α) (k : Nat) (h : k < l.length) : l.take (k + 1) = l.take k ++ [l[k]] := by
  rw [List.take_succ_eq_append_getElem h]
/-- a text's register, from x -/
def bytesT (x : Crc.Reg) (l : Text) : Crc.Reg := Crc.bytes x (Crc.bv l)
def onT (s : Crc.Reg) (l : Text) : Crc.Reg := Crc.on s (Crc.bv l)
theorem bytes_next (x : Crc.Reg) (l : Text) (k : Nat) (h : k < l.length) : bytesT x (l.take (k + 1)) = Crc.steps 8 (bytesT x (l.take k) ^^^ l[k].toBitVec.setWidth 32) := by
  unfold bytesT
  rw [take_next l k h, Crc.bv_append, Crc.bytes_append]; rfl
theorem onT_eq (s : Crc.Reg) (l : Text) : onT s l = bytesT (s ^^^ BitVec.allOnes 32) l ^^^ BitVec.allOnes 32 := rfl
theorem steps_next (n : Nat) : ∀ x : Crc.Reg, Crc.steps (n + 1) x = Crc.step (Crc.steps n x) := by
  induction n with
  | zero => intro x; rfl
  | succ n ih => intro x; exact ih (Crc.step x)

set_option maxHeartbeats 400000 in
theorem code_halve (x : Crc.Reg) (w : World) :
    Calls Try.prog 105 #[.int .u32 (reg x)] w fun e w' => e = .returned (.int .u32 (reg (Crc.step x))) ∧ w = w' := by
  obtain ⟨h0, h1⟩ := reg_bd x
  by_cases hb : x.getLsbD 0 = true
  · have ht : (reg x % 2 == 1) = true := by rw [(reg_odd x).2 hb]; rfl
    have HV : Hid (bits .xor .u32 (reg x / 2) 3988292384 = reg (Crc.step x)) := by
      rw [reg_half]
      exact Lib.hid ((reg_xor (x >>> 1) Crc.poly).trans (by unfold Crc.step; rw [hb]; rfl))
    clear hb
    go_enter Try.func105, Try.ntmps105
    go_wp2
    go_ret
    exact ⟨ret_int HV.out, rfl⟩
  · have ht : (reg x % 2 == 1) = false := by
      have : ¬ reg x % 2 = 1 := fun h => hb ((reg_odd x).1 h)
      simp [this]
    have HV : Hid (reg x / 2 = reg (Crc.step x)) := by
      rw [reg_half]
      exact Lib.hid (by rw [Crc.step_shift (by simpa using hb)])
    clear hb
    go_enter Try.func105, Try.ntmps105
    go_wp2
    go_ret
    exact ⟨ret_int HV.out, rfl⟩

set_option maxHeartbeats 400000 in
theorem code_behind (n : Nat) (hn : n < 16) (w : World) :
    Calls Try.prog 104 #[.int .i64 n] w fun e w' => e = .returned (.int .u32 (reg (Crc.steps 4 (BitVec.ofNat 32 n)))) ∧ w = w' := by
  obtain ⟨x, hx⟩ : ∃ x, x = BitVec.ofNat 32 n := ⟨_, rfl⟩
  have HX : Hid (((n : Nat) : Int) = reg x) := Lib.hid (by rw [hx]; unfold reg; simp; omega)
  rw [← hx]
  clear hx
  go_enter Try.func104, Try.ntmps104
  go_wp2
  rw [HX.out]
  clear HX hn
  go_loop [3, 6] (fun r i => ∃ j : Nat, j ≤ 4 ∧ i = .int .i64 j ∧ r = .int .u32 (reg (Crc.steps j x))) (fun _ i => 4 - (intOf i).toNat)
  case atStart => exact ⟨0, by omega, rfl, rfl⟩
  case round =>
    obtain ⟨j, hj, rfl, rfl⟩ := hrel
    by_cases hl4 : j < 4
    · have HJ := Lib.hid (steps_next j x)
      go_wp2_with (go_at_call 105; refine (code_halve _ _).mono ?_; rintro e w' ⟨rfl, rfl⟩)
      go_round
      case rel => exact ⟨j + 1, by omega, by go_num, by rw [HJ.out]⟩
      case measure => simp [intOf]; omega
    · obtain rfl : j = 4 := by omega
      go_wp2
      go_ret
      exact ⟨rfl, rfl⟩

theorem shift4 (x : Crc.Reg) : reg x / (16 : Int) = reg (x >>> 4) := by
  unfold reg
  rw [BitVec.toNat_ushiftRight, Nat.shiftRight_eq_div_pow]
  omega
theorem reg_shl (x : Crc.Reg) : reg x * (2 : Int) % (4294967296 : Int) = reg (x <<< 1) := by
  unfold reg
  rw [BitVec.toNat_shiftLeft, Nat.shiftLeft_eq]
  omega
theorem reg_zero (x : Crc.Reg) : reg x = 0 ↔ x = 0#32 := by
  unfold reg
  constructor
  · intro h; exact BitVec.eq_of_toNat_eq (by simp; omega)
  · intro h; subst h; rfl
theorem reg_top (x : Crc.Reg) : (reg x / 2147483648 == 1) = x.getLsbD 31 := by
  have h : (reg x / 2147483648 = 1) ↔ x.getLsbD 31 = true := by
    unfold reg
    rw [BitVec.getLsbD, Nat.testBit_eq_decide_div_mod_eq]
    simp only [decide_eq_true_eq]
    have := x.isLt
    omega
  rw [Bool.eq_iff_iff, ← h]
  simp

end Go.Proofs.Ythgpdfdijcabeaa
