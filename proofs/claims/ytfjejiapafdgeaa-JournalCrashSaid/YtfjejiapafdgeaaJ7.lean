/- Plain facts on the check sum: registers multiplied, a burst, a sum's four bytes. Nothing of the program is imported. What the registers' steps give: the document's own and the program's. The table that the program makes, and how it goes through a text by it. -/
import Derived.Test.YtfjejiapafdgeaaJ6
import Derived.Test.YtfjejiapafdgeaaJ1
import Derived.Laws.BitsAllLaws
import Derived.Deep.LoopGhost
import Derived.Laws.Tables
import Derived.Laws.CopyOwn
namespace Go.Proofs.Ytfjejiapafdgeaa.Crc
set_option maxRecDepth 100000

theorem steps_comm (m n : Nat) (x : Reg) : steps m (steps n x) = steps n (steps m x) := by
  rw [← steps_add, ← steps_add, Nat.add_comm]
theorem steps_one_step (n : Nat) (x : Reg) : steps n (step x) = step (steps n x) := steps_comm n 1 x

def one : Reg := 0x80000000#32
def mulN (a b : Reg) : Nat → Reg
  | 0 => 0#32
  | n + 1 => mulN a b n ^^^ (if a.getLsbD (31 - n) then steps n b else 0#32)
/-- the product of two registers -/
def mul (a b : Reg) : Reg := mulN a b 32

theorem mulN_xor (a x y : Reg) (n : Nat) : mulN a (x ^^^ y) n = mulN a x n ^^^ mulN a y n := by
  induction n with
  | zero => simp [mulN]
  | succ n ih =>
    simp only [mulN, ih]
    cases a.getLsbD (31 - n)
    · simp
    · simp only [if_true, steps_xor]; ac_rfl
theorem mulN_zero (a : Reg) (n : Nat) : mulN a 0#32 n = 0#32 := by
  induction n with
  | zero => rfl
  | succ n ih => simp only [mulN, ih, steps_zero]; simp
theorem mulN_step (a b : Reg) (n : Nat) : mulN a (step b) n = step (mulN a b n) := by
  induction n with
  | zero => simp only [mulN, step_zero]
  | succ n ih =>
    simp only [mulN, ih, step_xor]
    cases a.getLsbD (31 - n)
    · simp [step_zero]
    · simp only [if_true, steps_one_step]
theorem mulN_steps (a : Reg) (n : Nat) (j : Nat) : ∀ b : Reg, mulN a (steps j b) n = steps j (mulN a b n) := by
  induction j with
  | zero => intro b; rfl
  | succ j ih => intro b; simp only [steps]; rw [ih, mulN_step]
theorem one_bit (n k : Nat) (hn : n ≤ 31) (hk : k < 32) : (steps n one).getLsbD k = decide (k = 31 - n) := by
  have h : ∀ n : Fin 32, ∀ k : Fin 32, (steps n.val one).getLsbD k.val = decide (k.val = 31 - n.val) := by decide +kernel
  exact h ⟨n, by omega⟩ ⟨k, hk⟩
theorem mulN_one (a : Reg) (n : Nat) (hn : n ≤ 32) (k : Nat) (hk : k < 32) : (mulN a one n).getLsbD k = (decide (32 ≤ k + n) && a.getLsbD k) := by
  induction n with
  | zero => simp only [mulN, BitVec.getLsbD_zero]; rw [decide_eq_false (by omega)]; rfl
  | succ n ih =>
    simp only [mulN, BitVec.getLsbD_xor, ih (by omega)]
    by_cases hb : a.getLsbD (31 - n) = true
    · rw [if_pos hb, one_bit n k (by omega) hk]
      by_cases h1 : k = 31 - n
      · subst h1
        rw [hb, decide_eq_false (by omega : ¬ 32 ≤ 31 - n + n), decide_eq_true (by omega : 32 ≤ 31 - n + (n + 1))]; simp
      · rw [decide_eq_false h1]
        by_cases h2 : 32 ≤ k + n
        · rw [decide_eq_true h2, decide_eq_true (by omega : 32 ≤ k + (n + 1))]; simp
        · rw [decide_eq_false h2, decide_eq_false (by omega : ¬ 32 ≤ k + (n + 1))]; simp
    · rw [if_neg hb]
      by_cases h1 : k = 31 - n
      · subst h1
        have : a.getLsbD (31 - n) = false := by simpa using hb
        rw [this]; simp
      · by_cases h2 : 32 ≤ k + n
        · rw [decide_eq_true h2, decide_eq_true (by omega : 32 ≤ k + (n + 1))]; simp
        · rw [decide_eq_false h2, decide_eq_false (by omega : ¬ 32 ≤ k + (n + 1))]; simp
theorem mul_one (a : Reg) : mul a one = a := by
  apply BitVec.eq_of_getLsbD_eq
  intro k hk
  unfold mul
  rw [mulN_one a 32 (by omega) k hk, decide_eq_true (by omega)]
  simp
/-- what stands for so many steps multiplies as so many steps -/
theorem mulN_of (a b : Reg) (N p : Nat) (ha : mulN a one N = a) (hp : a = steps p one) (n : Nat) : mulN a (mulN b one n) N = steps p (mulN b one n) := by
  induction n with
  | zero => simp only [mulN, mulN_zero, steps_zero]
  | succ n ih =>
    have e : mulN b one (n + 1) = mulN b one n ^^^ (if b.getLsbD (31 - n) then steps n one else 0#32) := rfl
    rw [e, mulN_xor, steps_xor, ih]
    congr 1
    cases b.getLsbD (31 - n)
    · simp only [Bool.false_eq_true, if_false, mulN_zero, steps_zero]
    · simp only [if_true]
      rw [mulN_steps, ha, hp, steps_comm]
theorem mul_steps (p : Nat) (b : Reg) : mul (steps p one) b = steps p b := by
  have h := mulN_of (steps p one) b 32 p (mul_one _) rfl 32
  have hb : mulN b one 32 = b := mul_one b
  rw [hb] at h
  exact h
/-- nothing is left of a register: the rest of its product is nothing -/
theorem mulN_rest (a b : Reg) (i : Nat) (h : a <<< i = 0#32) (n : Nat) (hn : i + n ≤ 32) : mulN a b (i + n) = mulN a b i := by
  induction n with
  | zero => rfl
  | succ n ih =>
    show mulN a b (i + n + 1) = _
    simp only [mulN]
    rw [ih (by omega)]
    have hb := congrArg (fun y : Reg => y.getLsbD (31 - (i + n) + i)) h
    simp only [BitVec.getLsbD_shiftLeft, BitVec.getLsbD_zero] at hb
    rw [decide_eq_true (by omega : 31 - (i + n) + i < 32), decide_eq_false (by omega : ¬ 31 - (i + n) + i < i)] at hb
    rw [show 31 - (i + n) + i - i = 31 - (i + n) by omega] at hb
    simp at hb
    rw [hb]
    simp
theorem mulN_done (a b : Reg) (i : Nat) (h : a <<< i = 0#32) (hi : i ≤ 32) : mulN a b i = mul a b := by
  have := mulN_rest a b i h (32 - i) (by omega)
  rw [show i + (32 - i) = 32 by omega] at this
  exact this.symm
theorem top_bit (a : Reg) (i : Nat) (hi : i ≤ 31) : (a <<< i).getLsbD 31 = a.getLsbD (31 - i) := by
  rw [BitVec.getLsbD_shiftLeft, decide_eq_true (by omega : 31 < 32), decide_eq_false (by omega : ¬ 31 < i)]
  simp

/-- a word's lowest bits -/
def lowN (t : Reg) : Nat → Reg
  | 0 => 0#32
  | k + 1 => lowN t k ^^^ (if t.getLsbD k then 1#32 <<< k else 0#32)
theorem low_bit (k j : Nat) (hk : k < 32) (hj : j < 32) : (1#32 <<< k).getLsbD j = decide (j = k) := by
  have h : ∀ k : Fin 32, ∀ j : Fin 32, (1#32 <<< k.val).getLsbD j.val = decide (j.val = k.val) := by decide +kernel
  exact h ⟨k, hk⟩ ⟨j, hj⟩
theorem lowN_bit (t : Reg) (k : Nat) (hk : k ≤ 32) (j : Nat) (hj : j < 32) : (lowN t k).getLsbD j = (decide (j < k) && t.getLsbD j) := by
  induction k with
  | zero => simp [lowN]
  | succ k ih =>
    simp only [lowN, BitVec.getLsbD_xor, ih (by omega)]
    by_cases hb : t.getLsbD k = true
    · rw [if_pos hb, low_bit k j (by omega) hj]
      by_cases h1 : j = k
      · subst h1
        rw [hb, decide_eq_false (by omega : ¬ j < j), decide_eq_true (by omega : j < j + 1)]; simp
      · rw [decide_eq_false h1]
        by_cases h2 : j < k
        · rw [decide_eq_true h2, decide_eq_true (by omega : j < k + 1)]; simp
        · rw [decide_eq_false h2, decide_eq_false (by omega : ¬ j < k + 1)]; simp
    · rw [if_neg hb]
      by_cases h1 : j = k
      · subst h1
        have : t.getLsbD j = false := by simpa using hb
        rw [this]; simp
      · by_cases h2 : j < k
        · rw [decide_eq_true h2, decide_eq_true (by omega : j < k + 1)]; simp
        · rw [decide_eq_false h2, decide_eq_false (by omega : ¬ j < k + 1)]; simp
theorem lowN_all (t : Reg) : lowN t 32 = t := by
  apply BitVec.eq_of_getLsbD_eq
  intro j hj
  rw [lowN_bit t 32 (by omega) j hj, decide_eq_true hj]
  simp
theorem steps_bit (k : Nat) (hk : k < 32) : steps k (1#32 <<< k) = 1#32 := by
  have h : ∀ k : Fin 32, steps k.val (1#32 <<< k.val) = 1#32 := by decide +kernel
  exact h ⟨k, hk⟩

/-- a byte's bits turned: what becomes of the register -/
theorem bytes_turn (x : Reg) (l : List (BitVec 8)) (q : Nat) (hq : q < l.length) (d : BitVec 8) :
    bytes x (l.set q (l[q] ^^^ d)) = bytes x l ^^^ steps (8 * (l.length - q)) (d.setWidth 32) := by
  have e1 : l = l.take q ++ l[q] :: l.drop (q + 1) := by simp
  have e2 : l.set q (l[q] ^^^ d) = l.take q ++ (l[q] ^^^ d) :: l.drop (q + 1) := by
    rw [List.set_eq_take_append_cons_drop, if_pos hq]
  rw [e2]
  conv => rhs; rw [show bytes x l = bytes x (l.take q ++ l[q] :: l.drop (q + 1)) by rw [← e1]]
  rw [bytes_append, bytes_append]
  generalize bytes x (l.take q) = y
  show bytes (byte y (l[q] ^^^ d)) _ = bytes (byte y l[q]) _ ^^^ _
  have hb : byte y (l[q] ^^^ d) = byte y l[q] ^^^ byte 0#32 d := by rw [← byte_xor, BitVec.xor_zero]
  rw [hb, bytes_from (byte y l[q] ^^^ byte 0#32 d), bytes_from (byte y l[q]), steps_xor]
  have hd : byte 0#32 d = steps 8 (d.setWidth 32) := by unfold byte; rw [BitVec.zero_xor]
  have hl : (l.drop (q + 1)).length = l.length - q - 1 := by rw [List.length_drop]; omega
  rw [hd, ← steps_add, hl, show 8 + 8 * (l.length - q - 1) = 8 * (l.length - q) by omega]
  ac_rfl
theorem byte_bit (p : Nat) (hp : p < 8) : (1#8 <<< p).setWidth 32 = 1#32 <<< p := by
  have h : ∀ p : Fin 8, (1#8 <<< p.val).setWidth 32 = 1#32 <<< p.val := by decide +kernel
  exact h ⟨p, hp⟩
/-- a bit turned, k places behind a place that has 32 bits behind it at least -/
theorem bytes_bit (x : Reg) (l : List (BitVec 8)) (at0 k : Nat) (hk : k < 32) (hat : at0 + 32 ≤ 8 * l.length) (hq : (at0 + k) / 8 < l.length) :
    bytes x (l.set ((at0 + k) / 8) (l[(at0 + k) / 8] ^^^ 1#8 <<< ((at0 + k) % 8))) = bytes x l ^^^ steps (8 * l.length - at0) (1#32 <<< k) := by
  rw [bytes_turn x l _ hq, byte_bit _ (Nat.mod_lt _ (by omega))]
  congr 1
  have h1 : steps (8 * (l.length - (at0 + k) / 8)) (1#32 <<< ((at0 + k) % 8)) = steps (8 * l.length - (at0 + k)) 1#32 := by
    rw [show 8 * (l.length - (at0 + k) / 8) = (at0 + k) % 8 + (8 * l.length - (at0 + k)) by omega, steps_add, steps_bit _ (by omega)]
  have h2 : steps (8 * l.length - at0) (1#32 <<< k) = steps (8 * l.length - (at0 + k)) 1#32 := by
    rw [show 8 * l.length - at0 = k + (8 * l.length - (at0 + k)) by omega, steps_add, steps_bit _ hk]
  rw [h1, h2]

/-- a text's bytes, as words of bits -/
def bv (l : List UInt8) : List (BitVec 8) := l.map UInt8.toBitVec
theorem bv_append (l m : List UInt8) : bv (l ++ m) = bv l ++ bv m := List.map_append ..
theorem bv_length (l : List UInt8) : (bv l).length = l.length := List.length_map ..
/-- a sum's four bytes, the highest first -/
def four (x : Reg) : List UInt8 := [⟨(x >>> 24).setWidth 8⟩, ⟨(x >>> 16).setWidth 8⟩, ⟨(x >>> 8).setWidth 8⟩, ⟨x.setWidth 8⟩]
theorem four_inj {x y : Reg} (h : four x = four y) : x = y := by
  unfold four at h
  simp only [List.cons.injEq, and_true] at h
  obtain ⟨h1, h2, h3, h4⟩ := h
  apply BitVec.eq_of_getLsbD_eq
  intro i hi
  by_cases a : i < 8
  · have := congrArg (fun z : UInt8 => z.toBitVec.getLsbD i) h4
    simpa [a] using this
  · by_cases b : i < 16
    · have := congrArg (fun z : UInt8 => z.toBitVec.getLsbD (i - 8)) h3
      simp only [BitVec.getLsbD_setWidth, BitVec.getLsbD_ushiftRight] at this
      rw [decide_eq_true (by omega : i - 8 < 8), show 8 + (i - 8) = i by omega] at this
      simpa using this
    · by_cases c : i < 24
      · have := congrArg (fun z : UInt8 => z.toBitVec.getLsbD (i - 16)) h2
        simp only [BitVec.getLsbD_setWidth, BitVec.getLsbD_ushiftRight] at this
        rw [decide_eq_true (by omega : i - 16 < 8), show 16 + (i - 16) = i by omega] at this
        simpa using this
      · have := congrArg (fun z : UInt8 => z.toBitVec.getLsbD (i - 24)) h1
        simp only [BitVec.getLsbD_setWidth, BitVec.getLsbD_ushiftRight] at this
        rw [decide_eq_true (by omega : i - 24 < 8), show 24 + (i - 24) = i by omega] at this
        simpa using this
def sumT (l : List UInt8) : Reg := sum (bv l)
/-- turned bits within 32 side by side turn the sum -/
theorem burst_sum (l m : List UInt8) (n : Nat) (t : Reg) (ht : t ≠ 0#32) (h : bytes (BitVec.allOnes 32) (bv m) = bytes (BitVec.allOnes 32) (bv l) ^^^ steps n t) : sumT m ≠ sumT l := by
  intro he
  unfold sumT sum on at he
  rw [BitVec.zero_xor] at he
  have h2 : bytes (BitVec.allOnes 32) (bv m) = bytes (BitVec.allOnes 32) (bv l) := by
    have := congrArg (fun z : Reg => z ^^^ BitVec.allOnes 32) he
    simpa only [BitVec.xor_assoc, BitVec.xor_self, BitVec.xor_zero] using this
  rw [h2] at h
  have h3 : steps n t = 0#32 := by
    have := congrArg (fun z : Reg => bytes (BitVec.allOnes 32) (bv l) ^^^ z) h
    simp only [← BitVec.xor_assoc, BitVec.xor_self, BitVec.zero_xor] at this
    exact this.symm
  exact ht (steps_eq_zero n h3)
end Go.Proofs.Ytfjejiapafdgeaa.Crc

namespace Go.Proofs.Ytfjejiapafdgeaa
open Go.RowKit
set_option maxRecDepth 100000

/-- a register as a number -/
def reg (x : Crc.Reg) : Int := (x.toNat : Int)
theorem reg_bd (x : Crc.Reg) : 0 ≤ reg x ∧ reg x < 4294967296 := by unfold reg; have := x.isLt; omega
theorem reg_odd (x : Crc.Reg) : (reg x % (2 : Int) = 1 ↔ x.getLsbD 0 = true) := by
  unfold reg
  rw [BitVec.getLsbD, Nat.testBit_zero]
  simp only [decide_eq_true_eq]
  omega
theorem reg_half (x : Crc.Reg) : reg x / (2 : Int) = reg (x >>> 1) := by
  unfold reg
  rw [BitVec.toNat_ushiftRight, Nat.shiftRight_succ, Nat.shiftRight_zero]
  omega
theorem reg_xor (x y : Crc.Reg) : bits .xor .u32 (reg x) (reg y) = reg (x ^^^ y) := by
  unfold reg
  rw [u32_xor_nat _ _ x.isLt y.isLt, BitVec.toNat_xor]

set_option maxHeartbeats 400000 in
theorem ref_step (x : Crc.Reg) (w : World) :
    Calls Try.prog 91 #[.int .u32 (reg x)] w fun e w' => e = .returned (.int .u32 (reg (Crc.step x))) ∧ w = w' := by
  obtain ⟨h0, h1⟩ := reg_bd x
  by_cases hb : x.getLsbD 0 = true
  · have ht : (reg x % 2 == 1) = true := by rw [(reg_odd x).2 hb]; rfl
    have HV : Hid (bits .xor .u32 (reg x / 2) 3988292384 = reg (Crc.step x)) := by
      rw [reg_half]
      exact Lib.hid ((reg_xor (x >>> 1) Crc.poly).trans (by unfold Crc.step; rw [hb]; rfl))
    clear hb
    go_enter Try.func91, Try.ntmps91
    go_wp2
    go_ret
    exact ⟨ret_int HV.out, rfl⟩
  · have ht : (reg x % 2 == 1) = false := by
      have : ¬ reg x % 2 = 1 := fun h => hb ((reg_odd x).1 h)
      simp [this]
    have HV : Hid (reg x / 2 = reg (Crc.step x)) := by
      rw [reg_half]
      exact Lib.hid (by rw [Crc.step_shift (by simpa using hb)])
    clear hb
    go_enter Try.func91, Try.ntmps91
    go_wp2
    go_ret
    exact ⟨ret_int HV.out, rfl⟩

theorem reg_byte (c : UInt8) : ((c.toNat : Nat) : Int) = reg (c.toBitVec.setWidth 32) := by
  unfold reg
  rw [BitVec.toNat_setWidth, UInt8.toNat_toBitVec, Nat.mod_eq_of_lt (by have := c.toNat_lt; omega)]
theorem take_next {α : Type} (l : List α) (k : Nat) (h : k < l.length) : l.take (k + 1) = l.take k ++ [l[k]] := by
  rw [List.take_succ_eq_append_getElem h]
/-- a text's register, from x -/
def bytesT (x : Crc.Reg) (l : Text) : Crc.Reg := Crc.bytes x (Crc.bv l)
def onT (s : Crc.Reg) (l : Text) : Crc.Reg := Crc.on s (Crc.bv l)
theorem bytes_next (x : Crc.Reg) (l : Text) (k : Nat) (h : k < l.length) : bytesT x (l.take (k + 1)) = Crc.steps 8 (bytesT x (l.take k) ^^^ l[k].toBitVec.setWidth 32) := by
  unfold bytesT
  rw [take_next l k h, Crc.bv_append, Crc.bytes_append]; rfl
theorem onT_eq (s : Crc.Reg) (l : Text) : onT s l = bytesT (s ^^^ BitVec.allOnes 32) l ^^^ BitVec.allOnes 32 := rfl
theorem steps_next (n : Nat) : ∀ x : Crc.Reg, Crc.steps (n + 1) x = Crc.step (Crc.steps n x) := by
  induction n with
  | zero => intro x; rfl
  | succ n ih => intro x; exact ih (Crc.step x)

set_option maxHeartbeats 400000 in
theorem code_halve (x : Crc.Reg) (w : World) :
    Calls Try.prog 101 #[.int .u32 (reg x)] w fun e w' => e = .returned (.int .u32 (reg (Crc.step x))) ∧ w = w' := by
  obtain ⟨h0, h1⟩ := reg_bd x
  by_cases hb : x.getLsbD 0 = true
  · have ht : (reg x % 2 == 1) = true := by rw [(reg_odd x).2 hb]; rfl
    have HV : Hid (bits .xor .u32 (reg x / 2) 3988292384 = reg (Crc.step x)) := by
      rw [reg_half]
      exact Lib.hid ((reg_xor (x >>> 1) Crc.poly).trans (by unfold Crc.step; rw [hb]; rfl))
    clear hb
    go_enter Try.func101, Try.ntmps101
    go_wp2
    go_ret
    exact ⟨ret_int HV.out, rfl⟩
  · have ht : (reg x % 2 == 1) = false := by
      have : ¬ reg x % 2 = 1 := fun h => hb ((reg_odd x).1 h)
      simp [this]
    have HV : Hid (reg x / 2 = reg (Crc.step x)) := by
      rw [reg_half]
      exact Lib.hid (by rw [Crc.step_shift (by simpa using hb)])
    clear hb
    go_enter Try.func101, Try.ntmps101
    go_wp2
    go_ret
    exact ⟨ret_int HV.out, rfl⟩

set_option maxHeartbeats 400000 in
theorem code_behind (n : Nat) (hn : n < 16) (w : World) :
    Calls Try.prog 100 #[.int .i64 n] w fun e w' => e = .returned (.int .u32 (reg (Crc.steps 4 (BitVec.ofNat 32 n)))) ∧ w = w' := by
  obtain ⟨x, hx⟩ : ∃ x, x = BitVec.ofNat 32 n := ⟨_, rfl⟩
  have HX : Hid (((n : Nat) : Int) = reg x) := Lib.hid (by rw [hx]; unfold reg; simp; omega)
  rw [← hx]
  clear hx
  go_enter Try.func100, Try.ntmps100
  go_wp2
  rw [HX.out]
  clear HX hn
  go_loop [3, 6] (fun r i => ∃ j : Nat, j ≤ 4 ∧ i = .int .i64 j ∧ r = .int .u32 (reg (Crc.steps j x))) (fun _ i => 4 - (intOf i).toNat)
  case atStart => exact ⟨0, by omega, rfl, rfl⟩
  case round =>
    obtain ⟨j, hj, rfl, rfl⟩ := hrel
    by_cases hl4 : j < 4
    · have HJ := Lib.hid (steps_next j x)
      go_wp2_with (go_at_call 101; refine (code_halve _ _).mono ?_; rintro e w' ⟨rfl, rfl⟩)
      go_round
      case rel => exact ⟨j + 1, by omega, by go_num, by rw [HJ.out]⟩
      case measure => simp [intOf]; omega
    · obtain rfl : j = 4 := by omega
      go_wp2
      go_ret
      exact ⟨rfl, rfl⟩

theorem shift4 (x : Crc.Reg) : reg x / (16 : Int) = reg (x >>> 4) := by
  unfold reg
  rw [BitVec.toNat_ushiftRight, Nat.shiftRight_eq_div_pow]
  omega
theorem reg_shl (x : Crc.Reg) : reg x * (2 : Int) % (4294967296 : Int) = reg (x <<< 1) := by
  unfold reg
  rw [BitVec.toNat_shiftLeft, Nat.shiftLeft_eq]
  omega
theorem reg_zero (x : Crc.Reg) : reg x = 0 ↔ x = 0#32 := by
  unfold reg
  constructor
  · intro h; exact BitVec.eq_of_toNat_eq (by simp; omega)
  · intro h; subst h; rfl
theorem reg_top (x : Crc.Reg) : (reg x / 2147483648 == 1) = x.getLsbD 31 := by
  have h : (reg x / 2147483648 = 1) ↔ x.getLsbD 31 = true := by
    unfold reg
    rw [BitVec.getLsbD, Nat.testBit_eq_decide_div_mod_eq]
    simp only [decide_eq_true_eq]
    have := x.isLt
    omega
  rw [Bool.eq_iff_iff, ← h]
  simp

end Go.Proofs.Ytfjejiapafdgeaa

namespace Go.Proofs.Ytfjejiapafdgeaa
open Go.RowKit
set_option maxRecDepth 100000

def entry (n : Nat) : Value := .int .u32 (reg (Crc.steps 4 (BitVec.ofNat 32 n)))
/-- the table, its first j entries made -/
def tab (j : Nat) : Array Value := ((List.range 16).map fun n => if n < j then entry n else .int .u32 0).toArray
theorem tab_size (j : Nat) : (tab j).size = 16 := by simp [tab]
theorem tab_get (j k : Nat) (hk : k < 16) : (tab j)[k]? = some (if k < j then entry k else .int .u32 0) := by
  simp [tab, hk]
theorem tab_next (j : Nat) : (tab j).setIfInBounds j (entry j) = tab (j + 1) := by
  apply Array.ext_getElem?
  intro k
  rw [Array.getElem?_setIfInBounds, tab_size]
  by_cases h : j = k
  · subst h
    by_cases hj : j < 16
    · rw [if_pos rfl, if_pos hj, tab_get _ _ hj, if_pos (by omega)]
    · rw [if_pos rfl, if_neg hj, Array.getElem?_eq_none (by rw [tab_size]; omega)]
  · rw [if_neg h]
    by_cases hk : k < 16
    · rw [tab_get _ _ hk, tab_get _ _ hk]
      by_cases h1 : k < j
      · rw [if_pos h1, if_pos (by omega)]
      · rw [if_neg h1, if_neg (by omega)]
    · rw [Array.getElem?_eq_none (by rw [tab_size]; omega), Array.getElem?_eq_none (by rw [tab_size]; omega)]
theorem tab_zero : tab 0 = #[.int .u32 0, .int .u32 0, .int .u32 0, .int .u32 0, .int .u32 0, .int .u32 0, .int .u32 0, .int .u32 0, .int .u32 0, .int .u32 0, .int .u32 0, .int .u32 0, .int .u32 0, .int .u32 0, .int .u32 0, .int .u32 0] := rfl
theorem tab_one (j : Nat) : (tab j).all (·.oneCell') = true := by
  rw [Array.all_eq_true]
  intro i hi
  simp only [tab, List.getElem_toArray, List.getElem_map]
  by_cases h : (List.range 16)[i]'(by simpa [tab] using hi) < j
  · rw [if_pos h]; rfl
  · rw [if_neg h]; rfl
theorem tab_info : (Try.prog.info? 150).map (·.size) = some 16 := by kernel_rfl

set_option maxHeartbeats 1000000 in
theorem code_fours (w : World) :
    Calls Try.prog 97 #[] w fun e w' => e = .returned (.agg (tab 16)) ∧ Below w.heap.size w w' := by
  go_enter Try.func97, Try.ntmps97
  go_wp2
  go_loopw [4] (fun i wr => ∃ j : Nat, j ≤ 16 ∧ i = .int .i64 j ∧ wr.heap[w.heap.size + 1]? = some (.cells (tab j) 150 (0, 0)) ∧ wr.heap[w.heap.size]? = some (.cells (tab 0) 150 (0, 0)) ∧ Below w.heap.size w wr) (fun i _ => 16 - (intOf i).toNat)
  case atStart => exact ⟨0, by omega, rfl, by rw [tab_zero]; exact heap_alloc2_new _ _ _, by rw [tab_zero]; exact heap_alloc2_old _ _ _, ((Below.refl _ _).alloc (Nat.le_refl _) _).alloc (by simp) _⟩
  case round =>
    obtain ⟨j, hj, rfl, hT, hR, hB⟩ := hrel
    by_cases hlt : j < 16
    · have hc : wr.cell? ⟨w.heap.size + 1, j, none⟩ = some (.int .u32 0) := by rw [cell_of_row _ _ _ _ _ _ hT, tab_get _ _ hlt, if_neg (by omega)]
      have hf := frozen_of_row _ _ j _ _ hT
      have HT := Lib.hid hT
      have HR := Lib.hid hR
      clear hT hR
      go_wp2_with (go_at_call 100; refine (code_behind j hlt _).mono ?_; rintro e w' ⟨rfl, rfl⟩)
      go_roundw
      case rel =>
        refine ⟨j + 1, by omega, by go_num, ?_, ?_, hB.setCell (by simp) _⟩
        · rw [heap_setCell_same _ _ _ _ _ _ HT.out]
          show some (Obj.cells ((tab j).setIfInBounds j (entry j)) _ _) = _
          rw [tab_next]
        · rw [heap_setCell_other _ _ _ _ (by simp)]
          exact HR.out
      case measure => simp [intOf]; omega
    · obtain rfl : j = 16 := by omega
      have HT := Lib.hid hT
      have HR := Lib.hid hR
      clear hT hR
      go_wp2_with (first | (refine wpList_load_row (o := ⟨some 13, _, _, _, _, _⟩) rfl 150 (.tmp 2) rfl (w.heap.size + 1) rfl 150 (tab 16) (0, 0) _ HT.out Try.underlying150 rfl tab_info ?_) | (refine wpList_store_row (o := ⟨none, _, _, _, _, _⟩) rfl 150 (.tmp 0) (.tmp 13) rfl w.heap.size (tab 16) rfl rfl 150 (tab 0) HR.out tab_info rfl (tab_one 16) ?_))
      exact bodyPost_ret (v := .agg (tab 16)) (results_cell_row Try.results97 _ _ w.heap.size 150 (tab 16) (0, 0) _ rfl (setRow_heap _ _ _ _ _ _ HR.out) Try.underlying150 rfl tab_info) rfl ⟨rfl, below_setRow hB (Nat.le_refl _) _⟩

/-- a register's four lowest bits, and the table's entry for them -/
theorem low_entry (x : Crc.Reg) : ∃ k : Nat, k < 16 ∧ reg x % (16 : Int) = (k : Int) ∧ BitVec.ofNat 32 k = x &&& 15#32 := by
  refine ⟨x.toNat % 16, by omega, by unfold reg; omega, ?_⟩
  apply BitVec.eq_of_toNat_eq
  rw [BitVec.toNat_and, BitVec.toNat_ofNat]
  show x.toNat % 16 % 2 ^ 32 = x.toNat &&& (2 ^ 4 - 1)
  rw [Nat.and_two_pow_sub_one_eq_mod]
  omega
theorem entry_eq (x : Crc.Reg) (k : Nat) (hk : BitVec.ofNat 32 k = x &&& 15#32) : reg (x >>> 4 ^^^ Crc.steps 4 (BitVec.ofNat 32 k)) = reg (Crc.steps 4 x) := by
  rw [hk, ← Crc.steps4]
theorem not_reg (x : Crc.Reg) : bits .xor .u32 IntKind.u32.max (reg x) = reg (x ^^^ BitVec.allOnes 32) := by
  rw [BitVec.xor_comm]
  exact reg_xor (BitVec.allOnes 32) x
theorem byte_mod (c : UInt8) : ((c.toNat : Nat) : Int) % (4294967296 : Int) = ((c.toNat : Nat) : Int) := by have := c.toNat_lt; omega
theorem sh4 (x : Crc.Reg) : reg x / (16 : Int) = reg (x >>> 4) := shift4 x

set_option maxRecDepth 100000 in
set_option maxHeartbeats 1000000 in
theorem code_on (s : Crc.Reg) (l : Text) (A : Option Addr) (cap : Nat) (w : World) (hm : l.length ≤ 140737488355328) (hT : Txt w A l) :
    Calls Try.prog 92 #[.int .u32 (reg s), .slice A l.length cap] w fun e w' => e = .returned (.int .u32 (reg (onT s l))) ∧ Below w.heap.size w w' := by
  have HT := Lib.hid hT
  clear hT
  go_enter Try.func92, Try.ntmps92
  go_wp2_with (first | (go_at_call 97; refine (code_fours _).mono ?_; rintro e w1 ⟨rfl, hb1⟩) | (refine wpList_store_row (o := ⟨none, _, _, _, _, _⟩) rfl 150 (.tmp 5) (.tmp 9) rfl w1.heap.size (tab 16) rfl rfl 150 (tab 0) (by rw [tab_zero]; exact heap_alloc_new _ _) tab_info rfl (tab_one 16) ?_))
  have B1 : Below w.heap.size w ((w1.alloc (Obj.cells (tab 0) 150)).setRow w1.heap.size (tab 16)) := below_setRow (hb1.alloc hb1.size _) hb1.size _
  have R1 : ((w1.alloc (Obj.cells (tab 0) 150)).setRow w1.heap.size (tab 16)).heap[w1.heap.size]? = some (.cells (tab 16) 150 (0, 0)) := setRow_heap _ _ _ _ _ _ (heap_alloc_new _ _)
  rw [tab_zero] at B1 R1
  generalize ((w1.alloc (Obj.cells #[.int .u32 0, .int .u32 0, .int .u32 0, .int .u32 0, .int .u32 0, .int .u32 0, .int .u32 0, .int .u32 0, .int .u32 0, .int .u32 0, .int .u32 0, .int .u32 0, .int .u32 0, .int .u32 0, .int .u32 0, .int .u32 0] 150)).setRow w1.heap.size (tab 16)) = W at *
  rw [not_reg]
  obtain ⟨X0, hX0⟩ : ∃ X0, X0 = s ^^^ BitVec.allOnes 32 := ⟨_, rfl⟩
  rw [← hX0]
  have HE : Hid (∀ y, y = bytesT X0 l → reg (y ^^^ BitVec.allOnes 32) = reg (onT s l)) := Lib.hid (fun y hy => by rw [hy, hX0, onT_eq])
  have HTw := Lib.hid (HT.out.below B1)
  generalize w1.heap.size = g at *
  have HR := Lib.hid R1
  clear hX0 hb1 R1 HT
  go_loop [6, 14] (fun x i => ∃ k : Nat, k ≤ l.length ∧ i = .int .i64 k ∧ x = .int .u32 (reg (bytesT X0 (l.take k)))) (fun _ i => l.length - (intOf i).toNat)
  case atStart => exact ⟨0, Nat.zero_le _, rfl, rfl⟩
  case round =>
    obtain ⟨k, hk, rfl, rfl⟩ := hrel
    by_cases hlt : k < l.length
    · obtain ⟨a, rfl, _, hcell⟩ := HTw.out.at_ hlt
      have HN := Lib.hid (bytes_next X0 l k hlt)
      generalize hX : bytesT X0 (l.take k) = X at *
      clear hX
      obtain ⟨c, hc⟩ : ∃ c, c = l[k] := ⟨_, rfl⟩
      rw [← hc] at hcell HN
      have HX : Hid (bits .xor .u32 (reg X) (((c.toNat : Nat) : Int) % (4294967296 : Int)) = reg (X ^^^ c.toBitVec.setWidth 32)) := Lib.hid (by rw [byte_mod, reg_byte, reg_xor])
      clear hc
      go_wp2
      rw [HX.out]
      generalize hY : X ^^^ c.toBitVec.setWidth 32 = Y at *
      clear hY HX
      go_loop [6, 22] (fun x i => ∃ j : Nat, j ≤ 2 ∧ i = .int .i64 j ∧ x = .int .u32 (reg (Crc.steps (4 * j) Y))) (fun _ i => 2 - (intOf i).toNat)
      case atStart => exact ⟨0, by omega, rfl, rfl⟩
      case round =>
        obtain ⟨j, hj, rfl, rfl⟩ := hrel
        by_cases hl2 : j < 2
        · have HJ : Hid (Crc.steps (4 * (j + 1)) Y = Crc.steps 4 (Crc.steps (4 * j) Y)) := Lib.hid (by rw [← Crc.steps_add]; rfl)
          generalize Crc.steps (4 * j) Y = Z at *
          obtain ⟨m, hm16, hz, hzz⟩ := low_entry Z
          have hcz : W.cell? ⟨g, m, none⟩ = some (.int .u32 (reg (Crc.steps 4 (BitVec.ofNat 32 m)))) := by
            rw [cell_of_row _ _ _ _ _ _ HR.out, tab_get _ _ hm16, if_pos hm16]; rfl
          have HZ : Hid (bits .xor .u32 (reg Z / (16 : Int)) (reg (Crc.steps 4 (BitVec.ofNat 32 m))) = reg (Crc.steps 4 Z)) := Lib.hid (by
            rw [sh4, reg_xor]; exact entry_eq Z m hzz)
          clear hzz
          have z0 := (reg_bd Z).1
          go_wp2
          go_round
          case rel => exact ⟨j + 1, by omega, by go_num, by rw [HJ.out, ← HZ.out]⟩
          case measure => simp [intOf]; omega
        · obtain rfl : j = 2 := by omega
          go_wp2
          go_round
          case rel => exact ⟨k + 1, by omega, by go_num, by rw [HN.out]⟩
          case measure => simp [intOf]; omega
    · obtain rfl : k = l.length := by omega
      go_wp2
      go_ret
      exact ⟨ret_int (by rw [not_reg]; exact HE.out _ rfl), B1⟩
end Go.Proofs.Ytfjejiapafdgeaa
