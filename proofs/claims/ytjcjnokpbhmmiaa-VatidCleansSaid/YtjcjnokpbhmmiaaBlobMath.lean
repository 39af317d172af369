/- Plain facts on numbers as bytes. Nothing of the program is imported. -/
import Derived.Lib.BitFns
import Derived.Lib.ItoaNum
namespace Go.Proofs.Ytjcjnokpbhmmiaa.Blob
open Go
set_option maxRecDepth 100000

/-- how many bytes a number has -/
def nb (m : Nat) : Nat := (Lib.bitLen m + 7) / 8
theorem nb_zero : nb 0 = 0 := by decide
theorem nb_step (m : Nat) (h0 : m ≠ 0) (h : m < 18446744073709551616) : nb m = nb (m / 256) + 1 := by
  unfold nb
  by_cases h1 : m < 256
  · have h2 : m / 256 = 0 := by omega
    have h3 : Lib.bitLen m ≤ 8 := Lib.bitLen_le8 ⟨m, h1⟩
    have h4 : 1 ≤ Lib.bitLen m := by
      rw [Lib.bitLen_half m h0 (by omega)]; omega
    have h5 : Lib.bitLen 0 = 0 := by decide
    rw [h2, h5]; omega
  · rw [Lib.bitLen_shift8 m (by omega) (by omega)]; omega
theorem nb_le (k : Nat) : ∀ m : Nat, m < 256 ^ k → m < 18446744073709551616 → nb m ≤ k := by
  induction k with
  | zero => intro m h _; have : m = 0 := by omega
            subst this; rw [nb_zero]; omega
  | succ k ih =>
    intro m h h2
    by_cases h0 : m = 0
    · subst h0; rw [nb_zero]; omega
    · rw [nb_step m h0 h2]
      have := ih (m / 256) (by rw [Nat.pow_succ] at h; omega) (by omega)
      omega
theorem nb_8 (m : Nat) (h : m < 9223372036854775808) : nb m ≤ 8 := nb_le 8 m (by omega) (by omega)
theorem nb_lt (m : Nat) (h : m < 18446744073709551616) : m < 256 ^ nb m := by
  induction m using Nat.strongRecOn with
  | _ m ih =>
    by_cases h0 : m = 0
    · subst h0; rw [nb_zero]; decide
    · rw [nb_step m h0 h, Nat.pow_succ]
      have := ih (m / 256) (by omega) (by omega)
      omega
theorem nb_pos (m : Nat) (h0 : m ≠ 0) (h : m < 18446744073709551616) : 0 < nb m := by rw [nb_step m h0 h]; omega
theorem nb_ge (m : Nat) (h0 : m ≠ 0) (h : m < 18446744073709551616) : 256 ^ (nb m - 1) ≤ m := by
  induction m using Nat.strongRecOn with
  | _ m ih =>
    rw [nb_step m h0 h, Nat.add_sub_cancel]
    by_cases h1 : m / 256 = 0
    · rw [h1, nb_zero]; omega
    · have := ih (m / 256) (by omega) h1 (by omega)
      have hp := nb_pos (m / 256) h1 (by omega)
      have e : nb (m / 256) = nb (m / 256) - 1 + 1 := by omega
      rw [e, Nat.pow_succ]
      omega

/-- so many bytes of a number, the highest first -/
def be : Nat → Nat → List UInt8
  | 0, _ => []
  | k + 1, m => be k (m / 256) ++ [UInt8.ofNat (m % 256)]
theorem be_length (k : Nat) : ∀ m, (be k m).length = k := by
  induction k with
  | zero => intro m; rfl
  | succ k ih => intro m; simp [be, ih]
theorem be_get (k : Nat) : ∀ m i : Nat, i < k → (be k m)[i]? = some (UInt8.ofNat (m / 256 ^ (k - 1 - i) % 256)) := by
  induction k with
  | zero => intro m i h; omega
  | succ k ih =>
    intro m i h
    simp only [be]
    by_cases hi : i < k
    · rw [List.getElem?_append_left (by rw [be_length]; exact hi), ih (m / 256) i hi, Nat.div_div_eq_div_mul]
      congr 4
      rw [show k + 1 - 1 - i = k - 1 - i + 1 by omega, Nat.pow_succ, Nat.mul_comm]
    · have : i = k := by omega
      subst this
      rw [List.getElem?_append_right (by rw [be_length]; omega), be_length]
      simp
/-- the number that bytes are, the highest first -/
def val (l : List UInt8) : Nat := l.foldl (fun n c => n * 256 + c.toNat) 0
theorem val_snoc (l : List UInt8) (c : UInt8) : val (l ++ [c]) = val l * 256 + c.toNat := by simp [val]
theorem val_be (k : Nat) : ∀ m : Nat, m < 256 ^ k → val (be k m) = m := by
  induction k with
  | zero => intro m h; have : m = 0 := by omega
            subst this; rfl
  | succ k ih =>
    intro m h
    simp only [be]
    rw [val_snoc, ih (m / 256) (by rw [Nat.pow_succ] at h; omega)]
    have : (UInt8.ofNat (m % 256)).toNat = m % 256 := by
      rw [UInt8.toNat_ofNat']; omega
    rw [this]; omega
theorem val_lt_from (l : List UInt8) : ∀ a : Nat, l.foldl (fun n c => n * 256 + c.toNat) a < (a + 1) * 256 ^ l.length := by
  induction l with
  | nil => intro a; simp
  | cons c l ih =>
    intro a
    simp only [List.foldl_cons, List.length_cons]
    refine Nat.lt_of_lt_of_le (ih _) ?_
    have := c.toNat_lt
    rw [Nat.pow_succ, Nat.mul_comm (256 ^ l.length), ← Nat.mul_assoc]
    exact Nat.mul_le_mul_right _ (by omega)
theorem val_lt (l : List UInt8) : val l < 256 ^ l.length := by
  have := val_lt_from l 0
  simpa [val] using this

/-- a number's size as bytes, behind a byte that tells how many -/
def numT (h m : Nat) : List UInt8 := UInt8.ofNat (h + nb m) :: be (nb m) m
theorem numT_length (h m : Nat) : (numT h m).length = nb m + 1 := by simp [numT, be_length]
/-- the next byte -/
theorem be_take (m i : Nat) (k : Nat) (h : i < k) : (be k m).take (i + 1) = (be k m).take i ++ [UInt8.ofNat (m / 256 ^ (k - 1 - i) % 256)] := by
  have hl : i < (be k m).length := by rw [be_length]; exact h
  rw [List.take_succ_eq_append_getElem hl]
  have := be_get k m i h
  rw [List.getElem?_eq_getElem hl] at this
  rw [Option.some.inj this]
/-- the same bytes, the lowest first -/
def le : Nat → Nat → List UInt8
  | 0, _ => []
  | k + 1, m => UInt8.ofNat (m % 256) :: le k (m / 256)
theorem le_length (k : Nat) : ∀ m, (le k m).length = k := by
  induction k with
  | zero => intro m; rfl
  | succ k ih => intro m; simp [le, ih]
theorem le_rev (k : Nat) : ∀ m, (le k m).reverse = be k m := by
  induction k with
  | zero => intro m; rfl
  | succ k ih => intro m; simp [le, be, ih]
theorem le_snoc (k : Nat) : ∀ m, le (k + 1) m = le k m ++ [UInt8.ofNat (m / 256 ^ k % 256)] := by
  induction k with
  | zero => intro m; simp [le]
  | succ k ih =>
    intro m
    have h := ih (m / 256)
    rw [le, h, le, Nat.div_div_eq_div_mul]
    rw [show 256 * 256 ^ k = 256 ^ (k + 1) by rw [Nat.pow_succ, Nat.mul_comm]]
    rfl
end Go.Proofs.Ytjcjnokpbhmmiaa.Blob
