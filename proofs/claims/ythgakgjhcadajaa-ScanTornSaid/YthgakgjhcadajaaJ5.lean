/- Plain facts on the check sum: a register of 32 bits, gone on bit by bit. Nothing of the program is imported. Plain facts on the check sum: registers multiplied, a burst, a sum's four bytes. Nothing of the program is imported. -/

namespace Go.Proofs.Ythgakgjhcadajaa.Crc
set_option maxRecDepth 100000

abbrev Reg := BitVec 32

def poly : Reg := 0xEDB88320

/-- a register, gone on by a bit that is 0 -/
def step (x : Reg) : Reg := (x >>> 1) ^^^ (if x.getLsbD 0 then poly else 0#32)

def steps : Nat → Reg → Reg
  | 0, x => x
  | n + 1, x => steps n (step x)

theorem step_xor (a b : Reg) : step (a ^^^ b) = step a ^^^ step b := by
  unfold step
  rw [BitVec.ushiftRight_xor_distrib, BitVec.getLsbD_xor]
  have h2 : (if (a.getLsbD 0 ^^ b.getLsbD 0) = true then poly else 0#32) = (if a.getLsbD 0 = true then poly else 0#32) ^^^ (if b.getLsbD 0 = true then poly else 0#32) := by
    cases a.getLsbD 0 <;> cases b.getLsbD 0 <;> simp
  rw [h2]
  ac_rfl

theorem steps_xor (n : Nat) : ∀ a b : Reg, steps n (a ^^^ b) = steps n a ^^^ steps n b := by
  induction n with
  | zero => intros; rfl
  | succ n ih => intro a b; simp only [steps, step_xor, ih]

theorem step_zero : step 0#32 = 0#32 := by decide
theorem steps_zero (n : Nat) : steps n 0#32 = 0#32 := by
  induction n with
  | zero => rfl
  | succ n ih => simp only [steps, step_zero, ih]

theorem steps_add (m n : Nat) : ∀ x : Reg, steps (m + n) x = steps n (steps m x) := by
  induction m with
  | zero => intro x; simp [steps]
  | succ m ih => intro x; rw [Nat.succ_add]; simp only [steps, ih]

/-- only nothing becomes nothing -/
theorem step_eq_zero {x : Reg} (h : step x = 0#32) : x = 0#32 := by
  unfold step at h
  by_cases hb : x.getLsbD 0 = true
  · have h31 := congrArg (fun y : Reg => y.getLsbD 31) h
    simp [hb, poly] at h31
  · rw [if_neg hb] at h
    simp only [BitVec.xor_zero] at h
    apply BitVec.eq_of_getLsbD_eq
    intro i hi
    rcases i with _ | i
    · simpa using hb
    · have := congrArg (fun y : Reg => y.getLsbD i) h
      simp at this
      rw [Nat.add_comm] at this
      simpa using this
theorem steps_eq_zero (n : Nat) : ∀ {x : Reg}, steps n x = 0#32 → x = 0#32 := by
  induction n with
  | zero => intro x h; exact h
  | succ n ih => intro x h; exact step_eq_zero (ih h)
theorem steps_inj (n : Nat) {x y : Reg} (h : steps n x = steps n y) : x = y := by
  have : steps n (x ^^^ y) = 0#32 := by rw [steps_xor, h, BitVec.xor_self]
  have := steps_eq_zero n this
  have h2 : x ^^^ y ^^^ y = 0#32 ^^^ y := by rw [this]
  rwa [BitVec.xor_assoc, BitVec.xor_self, BitVec.xor_zero, BitVec.zero_xor] at h2

/-- a register, gone on by a byte -/
def byte (x : Reg) (c : BitVec 8) : Reg := steps 8 (x ^^^ c.setWidth 32)
def bytes (x : Reg) (l : List (BitVec 8)) : Reg := l.foldl byte x

theorem bytes_append (x : Reg) (l m : List (BitVec 8)) : bytes x (l ++ m) = bytes (bytes x l) m := List.foldl_append ..
theorem byte_xor (x y : Reg) (c d : BitVec 8) : byte (x ^^^ y) (c ^^^ d) = byte x c ^^^ byte y d := by
  unfold byte
  rw [← steps_xor]
  congr 1
  rw [BitVec.setWidth_xor]
  ac_rfl
/-- of two texts of one length, the registers' difference is that of the texts' difference -/
theorem bytes_xor : ∀ (l m : List (BitVec 8)) (x y : Reg), l.length = m.length → bytes (x ^^^ y) (List.zipWith (· ^^^ ·) l m) = bytes x l ^^^ bytes y m := by
  intro l
  induction l with
  | nil => intro m x y h; cases m with
    | nil => rfl
    | cons _ _ => simp at h
  | cons c l ih =>
    intro m x y h
    cases m with
    | nil => simp at h
    | cons d m =>
      simp only [List.zipWith_cons_cons, bytes, List.foldl_cons]
      have := ih m (byte x c) (byte y d) (by simpa using h)
      unfold bytes at this
      rw [byte_xor, this]
theorem bytes_zeros (x : Reg) (n : Nat) : bytes x (List.replicate n 0#8) = steps (8 * n) x := by
  induction n generalizing x with
  | zero => rfl
  | succ n ih =>
    rw [List.replicate_succ]
    show bytes (byte x 0#8) _ = _
    rw [ih, show 8 * (n + 1) = 8 + 8 * n by omega, steps_add]
    unfold byte
    simp
/-- a text's register from x: that from 0, and x gone on by as many zeros -/
theorem bytes_from (x : Reg) (l : List (BitVec 8)) : bytes x l = steps (8 * l.length) x ^^^ bytes 0#32 l := by
  have := bytes_xor (List.replicate l.length 0#8) l x 0#32 (by simp)
  rw [bytes_zeros, BitVec.xor_zero] at this
  rw [← this]
  congr 1
  apply List.ext_getElem
  · simp
  · intro i h1 h2; simp

/-- the sum, gone on -/
def on (sum : Reg) (l : List (BitVec 8)) : Reg := bytes (sum ^^^ BitVec.allOnes 32) l ^^^ BitVec.allOnes 32
def sum (l : List (BitVec 8)) : Reg := on 0#32 l

theorem on_append (s : Reg) (l m : List (BitVec 8)) : on s (l ++ m) = on (on s l) m := by
  unfold on
  rw [bytes_append, BitVec.xor_assoc, BitVec.xor_self, BitVec.xor_zero]
/-- two sums, joined -/
theorem sum_append (l m : List (BitVec 8)) : sum (l ++ m) = steps (8 * m.length) (sum l) ^^^ sum m := by
  have h : sum (l ++ m) = on (sum l) m := by unfold sum; rw [on_append]
  rw [h]
  have e1 : on (sum l) m = steps (8 * m.length) (sum l ^^^ BitVec.allOnes 32) ^^^ bytes 0#32 m ^^^ BitVec.allOnes 32 := by unfold on; rw [bytes_from]
  have e2 : sum m = steps (8 * m.length) (0#32 ^^^ BitVec.allOnes 32) ^^^ bytes 0#32 m ^^^ BitVec.allOnes 32 := by unfold sum on; rw [bytes_from]
  rw [e1, e2, steps_xor, BitVec.zero_xor]
  ac_rfl

/-- four steps at once, by a table -/
theorem low4 (x : Reg) (i : Nat) : (x &&& 15#32).getLsbD i = (x.getLsbD i && decide (i < 4)) := by
  rw [BitVec.getLsbD_and]
  congr 1
  by_cases h : i < 4
  · have : i = 0 ∨ i = 1 ∨ i = 2 ∨ i = 3 := by omega
    rcases this with rfl | rfl | rfl | rfl <;> decide
  · simp only [h, decide_false]
    by_cases h32 : i < 32
    · have : ∀ j : Fin 32, ¬ j.val < 4 → (15#32).getLsbD j.val = false := by decide
      exact this ⟨i, h32⟩ h
    · exact BitVec.getLsbD_of_ge _ _ (by omega)
theorem step_shift {x : Reg} (h : x.getLsbD 0 = false) : step x = x >>> 1 := by unfold step; rw [h]; simp
theorem steps4_high {x : Reg} (h : ∀ i, i < 4 → x.getLsbD i = false) : steps 4 x = x >>> 4 := by
  have h1 := step_shift (h 0 (by omega))
  have h2 : step (x >>> 1) = x >>> 2 := by
    rw [step_shift (by simpa using h 1 (by omega)), ← BitVec.shiftRight_add]
  have h3 : step (x >>> 2) = x >>> 3 := by
    rw [step_shift (by simpa using h 2 (by omega)), ← BitVec.shiftRight_add]
  have h4 : step (x >>> 3) = x >>> 4 := by
    rw [step_shift (by simpa using h 3 (by omega)), ← BitVec.shiftRight_add]
  simp only [steps, h1, h2, h3, h4]
theorem steps4 (x : Reg) : steps 4 x = (x >>> 4) ^^^ steps 4 (x &&& 15#32) := by
  have h : x = (x ^^^ (x &&& 15#32)) ^^^ (x &&& 15#32) := by rw [BitVec.xor_assoc, BitVec.xor_self, BitVec.xor_zero]
  have hh : ∀ i, i < 4 → (x ^^^ (x &&& 15#32)).getLsbD i = false := fun i hi => by
    rw [BitVec.getLsbD_xor, low4]; simp [hi]
  have hs : (x ^^^ (x &&& 15#32)) >>> 4 = x >>> 4 := by
    apply BitVec.eq_of_getLsbD_eq
    intro i hi
    rw [BitVec.getLsbD_ushiftRight, BitVec.getLsbD_ushiftRight, BitVec.getLsbD_xor, low4]
    have : decide (4 + i < 4) = false := decide_eq_false (by omega)
    rw [this, Bool.and_false, Bool.xor_false]
  conv => lhs; rw [h]
  rw [steps_xor, steps4_high hh, hs]

/-- thirty-two bits that come one behind the other are as if they all came at once -/
theorem steps_small (k : Nat) : ∀ x : Reg, (∀ i, i < k → x.getLsbD i = false) → steps k x = x >>> k := by
  induction k with
  | zero => intro x _; rfl
  | succ k ih =>
    intro x h
    simp only [steps]
    rw [step_shift (h 0 (by omega)), ih _ (fun i hi => by simpa [Nat.add_comm] using h (i + 1) (by omega)), ← BitVec.shiftRight_add, Nat.add_comm]

/-- a bit, turned at some place of a text of bits -/
def bits (x : Reg) : List Bool → Reg
  | [] => x
  | b :: l => bits (step (x ^^^ (if b then 1#32 else 0#32))) l
theorem bits_append (l m : List Bool) : ∀ x : Reg, bits x (l ++ m) = bits (bits x l) m := by
  induction l with
  | nil => intro x; rfl
  | cons b l ih => intro x; exact ih _
theorem bits_zeros (n : Nat) : ∀ x : Reg, bits x (List.replicate n false) = steps n x := by
  induction n with
  | zero => intro x; rfl
  | succ n ih => intro x; simp only [List.replicate_succ, bits, steps]; rw [ih]; simp
/-- the first k bits of a word -/
def word (t : Reg) : Nat → List Bool
  | 0 => []
  | k + 1 => t.getLsbD 0 :: word (t >>> 1) k
theorem bits_word (k : Nat) : ∀ x t : Reg, (∀ i, k ≤ i → t.getLsbD i = false) → bits x (word t k) = steps k (x ^^^ t) := by
  induction k with
  | zero =>
    intro x t h
    have : t = 0#32 := BitVec.eq_of_getLsbD_eq (fun i _ => by simpa using h i (Nat.zero_le _))
    rw [this, BitVec.xor_zero]; rfl
  | succ k ih =>
    intro x t h
    simp only [word, bits, steps]
    rw [ih _ _ (fun i hi => by simpa [Nat.add_comm] using h (i + 1) (by omega))]
    congr 1
    have e : t = (if t.getLsbD 0 then 1#32 else 0#32) ^^^ (t ^^^ (if t.getLsbD 0 then 1#32 else 0#32)) := by
      rw [BitVec.xor_comm t, ← BitVec.xor_assoc, BitVec.xor_self, BitVec.zero_xor]
    have hz : (t ^^^ (if t.getLsbD 0 then 1#32 else 0#32)).getLsbD 0 = false := by
      rw [BitVec.getLsbD_xor]; cases t.getLsbD 0 <;> decide
    have hs : (t ^^^ (if t.getLsbD 0 then 1#32 else 0#32)) >>> 1 = t >>> 1 := by
      rw [BitVec.ushiftRight_xor_distrib]
      have : (if t.getLsbD 0 = true then 1#32 else 0#32) >>> 1 = 0#32 := by cases t.getLsbD 0 <;> decide
      rw [this, BitVec.xor_zero]
    rw [show x ^^^ t = (x ^^^ (if t.getLsbD 0 then 1#32 else 0#32)) ^^^ (t ^^^ (if t.getLsbD 0 then 1#32 else 0#32)) by
      rw [BitVec.xor_assoc]; congr 1]
    rw [step_xor (x ^^^ _), step_shift hz, hs]
/-- a burst is never lost: bits turned within 32 side by side leave something -/
theorem burst {t : Reg} (ht : t ≠ 0#32) (m n : Nat) : bits 0#32 (List.replicate m false ++ word t 32 ++ List.replicate n false) ≠ 0#32 := by
  rw [bits_append, bits_append, bits_zeros m, steps_zero, bits_word 32 _ _ (fun i hi => BitVec.getLsbD_of_ge _ _ hi), BitVec.zero_xor, bits_zeros]
  intro h
  exact ht (steps_eq_zero 32 (steps_eq_zero n h))
/-- a byte's bits, its lowest first -/
def bitsOf (c : BitVec 8) : List Bool := (List.range 8).map c.getLsbD
theorem byte_bits (x : Reg) (c : BitVec 8) : byte x c = bits x (bitsOf c) := by
  have : bitsOf c = word (c.setWidth 32) 8 := by
    unfold bitsOf
    simp only [word, List.range, List.range.loop, List.map]
    simp
  rw [this, bits_word]
  · rfl
  · intro i hi
    rw [BitVec.getLsbD_setWidth, BitVec.getLsbD_of_ge c i hi]
    simp
theorem bytes_bits (l : List (BitVec 8)) : ∀ x : Reg, bytes x l = bits x (l.flatMap bitsOf) := by
  induction l with
  | nil => intro x; rfl
  | cons c l ih =>
    intro x
    show bytes (byte x c) l = _
    rw [ih, List.flatMap_cons, bits_append, byte_bits]
end Go.Proofs.Ythgakgjhcadajaa.Crc

namespace Go.Proofs.Ythgakgjhcadajaa.Crc
set_option maxRecDepth 100000

theorem steps_comm (m n : Nat) (x : Reg) : steps m (steps n x) = steps n (steps m x) := by
  rw [← steps_add, ← steps_add, Nat.add_comm]
theorem steps_one_step (n : Nat) (x : Reg) : steps n (step x) = step (steps n x) := steps_comm n 1 x

def one : Reg := 0x80000000#32
def mulN (a b : Reg) : Nat → Reg
  | 0 => 0#32
  | n + 1 => mulN a b n ^^^ (if a.getLsbD (31 - n) then steps n b else 0#32)
/-- the product of two registers -/
def mul (a b : Reg) : Reg := mulN a b 32

theorem mulN_xor (a x y : Reg) (n : Nat) : mulN a (x ^^^ y) n = mulN a x n ^^^ mulN a y n := by
  induction n with
  | zero => simp [mulN]
  | succ n ih =>
    simp only [mulN, ih]
    cases a.getLsbD (31 - n)
    · simp
    · simp only [if_true, steps_xor]; ac_rfl
theorem mulN_zero (a : Reg) (n : Nat) : mulN a 0#32 n = 0#32 := by
  induction n with
  | zero => rfl
  | succ n ih => simp only [mulN, ih, steps_zero]; simp
theorem mulN_step (a b : Reg) (n : Nat) : mulN a (step b) n = step (mulN a b n) := by
  induction n with
  | zero => simp only [mulN, step_zero]
  | succ n ih =>
    simp only [mulN, ih, step_xor]
    cases a.getLsbD (31 - n)
    · simp [step_zero]
    · simp only [if_true, steps_one_step]
theorem mulN_steps (a : Reg) (n : Nat) (j : Nat) : ∀ b : Reg, mulN a (steps j b) n = steps j (mulN a b n) := by
  induction j with
  | zero => intro b; rfl
  | succ j ih => intro b; simp only [steps]; rw [ih, mulN_step]
theorem one_bit (n k : Nat) (hn : n ≤ 31) (hk : k < 32) : (steps n one).getLsbD k = decide (k = 31 - n) := by
  have h : ∀ n : Fin 32, ∀ k : Fin 32, (steps n.val one).getLsbD k.val = decide (k.val = 31 - n.val) := by decide +kernel
  exact h ⟨n, by omega⟩ ⟨k, hk⟩
theorem mulN_one (a : Reg) (n : Nat) (hn : n ≤ 32) (k : Nat) (hk : k < 32) : (mulN a one n).getLsbD k = (decide (32 ≤ k + n) && a.getLsbD k) := by
  induction n with
  | zero => simp only [mulN, BitVec.getLsbD_zero]; rw [decide_eq_false (by omega)]; rfl
  | succ n ih =>
    simp only [mulN, BitVec.getLsbD_xor, ih (by omega)]
    by_cases hb : a.getLsbD (31 - n) = true
    · rw [if_pos hb, one_bit n k (by omega) hk]
      by_cases h1 : k = 31 - n
      · subst h1
        rw [hb, decide_eq_false (by omega : ¬ 32 ≤ 31 - n + n), decide_eq_true (by omega : 32 ≤ 31 - n + (n + 1))]; simp
      · rw [decide_eq_false h1]
        by_cases h2 : 32 ≤ k + n
        · rw [decide_eq_true h2, decide_eq_true (by omega : 32 ≤ k + (n + 1))]; simp
        · rw [decide_eq_false h2, decide_eq_false (by omega : ¬ 32 ≤ k + (n + 1))]; simp
    · rw [if_neg hb]
      by_cases h1 : k = 31 - n
      · subst h1
        have : a.getLsbD (31 - n) = false := by simpa using hb
        rw [this]; simp
      · by_cases h2 : 32 ≤ k + n
        · rw [decide_eq_true h2, decide_eq_true (by omega : 32 ≤ k + (n + 1))]; simp
        · rw [decide_eq_false h2, decide_eq_false (by omega : ¬ 32 ≤ k + (n + 1))]; simp
theorem mul_one (a : Reg) : mul a one = a := by
  apply BitVec.eq_of_getLsbD_eq
  intro k hk
  unfold mul
  rw [mulN_one a 32 (by omega) k hk, decide_eq_true (by omega)]
  simp
/-- what stands for so many steps multiplies as so many steps -/
theorem mulN_of (a b : Reg) (N p : Nat) (ha : mulN a one N = a) (hp : a = steps p one) (n : Nat) : mulN a (mulN b one n) N = steps p (mulN b one n) := by
  induction n with
  | zero => simp only [mulN, mulN_zero, steps_zero]
  | succ n ih =>
    have e : mulN b one (n + 1) = mulN b one n ^^^ (if b.getLsbD (31 - n) then steps n one else 0#32) := rfl
    rw [e, mulN_xor, steps_xor, ih]
    congr 1
    cases b.getLsbD (31 - n)
    · simp only [Bool.false_eq_true, if_false, mulN_zero, steps_zero]
    · simp only [if_true]
      rw [mulN_steps, ha, hp, steps_comm]
theorem mul_steps (p : Nat) (b : Reg) : mul (steps p one) b = steps p b := by
  have h := mulN_of (steps p one) b 32 p (mul_one _) rfl 32
  have hb : mulN b one 32 = b := mul_one b
  rw [hb] at h
  exact h
/-- nothing is left of a register: the rest of its product is nothing -/
theorem mulN_rest (a b : Reg) (i : Nat) (h : a <<< i = 0#32) (n : Nat) (hn : i + n ≤ 32) : mulN a b (i + n) = mulN a b i := by
  induction n with
  | zero => rfl
  | succ n ih =>
    show mulN a b (i + n + 1) = _
    simp only [mulN]
    rw [ih (by omega)]
    have hb := congrArg (fun y : Reg => y.getLsbD (31 - (i + n) + i)) h
    simp only [BitVec.getLsbD_shiftLeft, BitVec.getLsbD_zero] at hb
    rw [decide_eq_true (by omega : 31 - (i + n) + i < 32), decide_eq_false (by omega : ¬ 31 - (i + n) + i < i)] at hb
    rw [show 31 - (i + n) + i - i = 31 - (i + n) by omega] at hb
    simp at hb
    rw [hb]
    simp
theorem mulN_done (a b : Reg) (i : Nat) (h : a <<< i = 0#32) (hi : i ≤ 32) : mulN a b i = mul a b := by
  have := mulN_rest a b i h (32 - i) (by omega)
  rw [show i + (32 - i) = 32 by omega] at this
  exact this.symm
theorem top_bit (a : Reg) (i : Nat) (hi : i ≤ 31) : (a <<< i).getLsbD 31 = a.getLsbD (31 - i) := by
  rw [BitVec.getLsbD_shiftLeft, decide_eq_true (by omega : 31 < 32), decide_eq_false (by omega : ¬ 31 < i)]
  simp

/-- a word's lowest bits -/
def lowN (t : Reg) : Nat → Reg
  | 0 => 0#32
  | k + 1 => lowN t k ^^^ (if t.getLsbD k then 1#32 <<< k else 0#32)
theorem low_bit (k j : Nat) (hk : k < 32) (hj : j < 32) : (1#32 <<< k).getLsbD j = decide (j = k) := by
  have h : ∀ k : Fin 32, ∀ j : Fin 32, (1#32 <<< k.val).getLsbD j.val = decide (j.val = k.val) := by decide +kernel
  exact h ⟨k, hk⟩ ⟨j, hj⟩
theorem lowN_bit (t : Reg) (k : Nat) (hk : k ≤ 32) (j : Nat) (hj : j < 32) : (lowN t k).getLsbD j = (decide (j < k) && t.getLsbD j) := by
  induction k with
  | zero => simp [lowN]
  | succ k ih =>
    simp only [lowN, BitVec.getLsbD_xor, ih (by omega)]
    by_cases hb : t.getLsbD k = true
    · rw [if_pos hb, low_bit k j (by omega) hj]
      by_cases h1 : j = k
      · subst h1
        rw [hb, decide_eq_false (by omega : ¬ j < j), decide_eq_true (by omega : j < j + 1)]; simp
      · rw [decide_eq_false h1]
        by_cases h2 : j < k
        · rw [decide_eq_true h2, decide_eq_true (by omega : j < k + 1)]; simp
        · rw [decide_eq_false h2, decide_eq_false (by omega : ¬ j < k + 1)]; simp
    · rw [if_neg hb]
      by_cases h1 : j = k
      · subst h1
        have : t.getLsbD j = false := by simpa using hb
        rw [this]; simp
      · by_cases h2 : j < k
        · rw [decide_eq_true h2, decide_eq_true (by omega : j < k + 1)]; simp
        · rw [decide_eq_false h2, decide_eq_false (by omega : ¬ j < k + 1)]; simp
theorem lowN_all (t : Reg) : lowN t 32 = t := by
  apply BitVec.eq_of_getLsbD_eq
  intro j hj
  rw [lowN_bit t 32 (by omega) j hj, decide_eq_true hj]
  simp
theorem steps_bit (k : Nat) (hk : k < 32) : steps k (1#32 <<< k) = 1#32 := by
  have h : ∀ k : Fin 32, steps k.val (1#32 <<< k.val) = 1#32 := by decide +kernel
  exact h ⟨k, hk⟩

/-- a byte's bits turned: what becomes of the register -/
theorem bytes_turn (x : Reg) (l : List (BitVec 8)) (q : Nat) (hq : q < l.length) (d : BitVec 8) :
    bytes x (l.set q (l[q] ^^^ d)) = bytes x l ^^^ steps (8 * (l.length - q)) (d.setWidth 32) := by
  have e1 : l = l.take q ++ l[q] :: l.drop (q + 1) := by simp
  have e2 : l.set q (l[q] ^^^ d) = l.take q ++ (l[q] ^^^ d) :: l.drop (q + 1) := by
    rw [List.set_eq_take_append_cons_drop, if_pos hq]
  rw [e2]
  conv => rhs; rw [show bytes x l = bytes x (l.take q ++ l[q] :: l.drop (q + 1)) by rw [← e1]]
  rw [bytes_append, bytes_append]
  generalize bytes x (l.take q) = y
  show bytes (byte y (l[q] ^^^ d)) _ = bytes (byte y l[q]) _ ^^^ _
  have hb : byte y (l[q] ^^^ d) = byte y l[q] ^^^ byte 0#32 d := by rw [← byte_xor, BitVec.xor_zero]
  rw [hb, bytes_from (byte y l[q] ^^^ byte 0#32 d), bytes_from (byte y l[q]), steps_xor]
  have hd : byte 0#32 d = steps 8 (d.setWidth 32) := by unfold byte; rw [BitVec.zero_xor]
  have hl : (l.drop (q + 1)).length = l.length - q - 1 := by rw [List.length_drop]; omega
  rw [hd, ← steps_add, hl, show 8 + 8 * (l.length - q - 1) = 8 * (l.length - q) by omega]
  ac_rfl
theorem byte_bit (p : Nat) (hp : p < 8) : (1#8 <<< p).setWidth 32 = 1#32 <<< p := by
  have h : ∀ p : Fin 8, (1#8 <<< p.val).setWidth 32 = 1#32 <<< p.val := by decide +kernel
  exact h ⟨p, hp⟩
/-- a bit turned, k places behind a place that has 32 bits behind it at least -/
theorem bytes_bit (x : Reg) (l : List (BitVec 8)) (at0 k : Nat) (hk : k < 32) (hat : at0 + 32 ≤ 8 * l.length) (hq : (at0 + k) / 8 < l.length) :
    bytes x (l.set ((at0 + k) / 8) (l[(at0 + k) / 8] ^^^ 1#8 <<< ((at0 + k) % 8))) = bytes x l ^^^ steps (8 * l.length - at0) (1#32 <<< k) := by
  rw [bytes_turn x l _ hq, byte_bit _ (Nat.mod_lt _ (by omega))]
  congr 1
  have h1 : steps (8 * (l.length - (at0 + k) / 8)) (1#32 <<< ((at0 + k) % 8)) = steps (8 * l.length - (at0 + k)) 1#32 := by
    rw [show 8 * (l.length - (at0 + k) / 8) = (at0 + k) % 8 + (8 * l.length - (at0 + k)) by omega, steps_add, steps_bit _ (by omega)]
  have h2 : steps (8 * l.length - at0) (1#32 <<< k) = steps (8 * l.length - (at0 + k)) 1#32 := by
    rw [show 8 * l.length - at0 = k + (8 * l.length - (at0 + k)) by omega, steps_add, steps_bit _ hk]
  rw [h1, h2]

/-- a text's bytes, as words of bits -/
def bv (l : List UInt8) : List (BitVec 8) := l.map UInt8.toBitVec
theorem bv_append (l m : List UInt8) : bv (l ++ m) = bv l ++ bv m := List.map_append ..
theorem bv_length (l : List UInt8) : (bv l).length = l.length := List.length_map ..
/-- a sum's four bytes, the highest first -/
def four (x : Reg) : List UInt8 := [⟨(x >>> 24).setWidth 8⟩, ⟨(x >>> 16).setWidth 8⟩, ⟨(x >>> 8).setWidth 8⟩, ⟨x.setWidth 8⟩]
theorem four_inj {x y : Reg} (h : four x = four y) : x = y := by
  unfold four at h
  simp only [List.cons.injEq, and_true] at h
  obtain ⟨h1, h2, h3, h4⟩ := h
  apply BitVec.eq_of_getLsbD_eq
  intro i hi
  by_cases a : i < 8
  · have := congrArg (fun z : UInt8 => z.toBitVec.getLsbD i) h4
    simpa [a] using this
  · by_cases b : i < 16
    · have := congrArg (fun z : UInt8 => z.toBitVec.getLsbD (i - 8)) h3
      simp only [BitVec.getLsbD_setWidth, BitVec.getLsbD_ushiftRight] at this
      rw [decide_eq_true (by omega : i - 8 < 8), show 8 + (i - 8) = i by omega] at this
      simpa using this
    · by_cases c : i < 24
      · have := congrArg (fun z : UInt8 => z.toBitVec.getLsbD (i - 16)) h2
        simp only [BitVec.getLsbD_setWidth, BitVec.getLsbD_ushiftRight] at this
        rw [decide_eq_true (by omega : i - 16 < 8), show 16 + (i - 16) = i by omega] at this
        simpa using this
      · have := congrArg (fun z : UInt8 => z.toBitVec.getLsbD (i - 24)) h1
        simp only [BitVec.getLsbD_setWidth, BitVec.getLsbD_ushiftRight] at this
        rw [decide_eq_true (by omega : i - 24 < 8), show 24 + (i - 24) = i by omega] at this
        simpa using this
def sumT (l : List UInt8) : Reg := sum (bv l)
/-- turned bits within 32 side by side turn the sum -/
theorem burst_sum (l m : List UInt8) (n : Nat) (t : Reg) (ht : t ≠ 0#32) (h : bytes (BitVec.allOnes 32) (bv m) = bytes (BitVec.allOnes 32) (bv l) ^^^ steps n t) : sumT m ≠ sumT l := by
  intro he
  unfold sumT sum on at he
  rw [BitVec.zero_xor] at he
  have h2 : bytes (BitVec.allOnes 32) (bv m) = bytes (BitVec.allOnes 32) (bv l) := by
    have := congrArg (fun z : Reg => z ^^^ BitVec.allOnes 32) he
    simpa only [BitVec.xor_assoc, BitVec.xor_self, BitVec.xor_zero] using this
  rw [h2] at h
  have h3 : steps n t = 0#32 := by
    have := congrArg (fun z : Reg => bytes (BitVec.allOnes 32) (bv l) ^^^ z) h
    simp only [← BitVec.xor_assoc, BitVec.xor_self, BitVec.zero_xor] at this
    exact this.symm
  exact ht (steps_eq_zero n h3)
end Go.Proofs.Ythgakgjhcadajaa.Crc
