/- The few words that all texts here use. A text's bytes, runs of bytes, tokens: plain facts. -/
import Derived.Test.YtpapcnogbmjpjaaGreatDoorRows
import Derived.WalkKit
import Derived.WalkSpells
import Derived.Below
import Derived.Lib.Hide
import Derived.IntWalk
import Derived.OwnWalk
import Derived.Laws.OwnMore
import Derived.Laws.IdiomStrings
import Derived.Lib.BufferRead
import Derived.Maps.AppendAt
import Derived.Deep.AppendLies
import Derived.Deep.Draws
import Derived.Laws.RangeAny
namespace Go.Proofs.YtpapcnogbmjpjaaGreatDoor
open Go.RowKit
set_option maxRecDepth 100000

theorem ret_int {k : IntKind} {a b : Int} (h : a = b) : Ending.returned (.int k a) = .returned (.int k b) := by rw [h]
theorem ret_bool {a b : Bool} (h : a = b) : Ending.returned (.bool a) = .returned (.bool b) := by rw [h]

theorem add_block (a : Addr) (n : Nat) : (a.add n).block = a.block := by
  unfold Addr.add
  by_cases h : n = 0
  · rw [if_pos h]
  · rw [if_neg h]
theorem add_twice (a : Addr) (i j : Nat) : (a.add i).add j = a.add (i + j) := by
  unfold Addr.add
  by_cases hi : i = 0
  · subst hi; simp
  · by_cases hj : j = 0
    · subst hj; simp
    · simp [hi, hj, Nat.add_assoc]

/-- where a walk halts -/
def Stop (p : Prop) : Prop := p
theorem Stop.out {p : Prop} (h : Stop p) : p := h
theorem below_alloc (w : World) (o : Obj) : Below w.heap.size w (w.alloc o) := (Below.refl _ _).alloc (Nat.le_refl _) o
theorem below_same (w : World) : Below w.heap.size w w := Below.refl _ _
theorem below_then {a b c : World} (h : Below a.heap.size a b) (k : Below b.heap.size b c) : Below a.heap.size a c := h.trans (k.mono h.size)
theorem cell_on {w w' : World} {p : Addr} {v : Value} (hb : Below w.heap.size w w') (h : w.cell? p = some v) : w'.cell? p = some v := (hb.cell (block_lt_of_cell h)).trans h
theorem heapLt {w : World} {g : Nat} {o : Obj} (h : w.heap[g]? = some o) : g < w.heap.size := (Array.getElem?_eq_some_iff.1 h).1
theorem heap_on {w w' : World} {g : Nat} {o : Obj} (hb : Below w.heap.size w w') (h : w.heap[g]? = some o) : w'.heap[g]? = some o := (hb.block g (heapLt h)).trans h
theorem one_cell {W : World} {g : Nat} {v : Value} {t : TypeId} (h : W.heap[g]? = some (.cells #[v] t (0, 0))) : W.cell? ⟨g, 0, none⟩ = some v ∧ W.frozen? ⟨g, 0, none⟩ = false :=
  ⟨cell_of_row W g 0 _ _ _ h, frozen_of_row W g 0 _ _ h⟩
end Go.Proofs.YtpapcnogbmjpjaaGreatDoor

namespace Go.Proofs.YtpapcnogbmjpjaaGreatDoor
open Go.RowKit
set_option linter.unusedVariables false

/-- a text's byte; nought beyond its end -/
def bt (s : ByteArray) (i : Nat) : UInt8 := if h : i < s.size then s[i]'h else 0
theorem bt_at {s : ByteArray} {i : Nat} (h : i < s.size) : s[i]'h = bt s i := by unfold bt; rw [dif_pos h]
def isLb (b : UInt8) : Bool := decide (97 ≤ b.toNat) && decide (b.toNat ≤ 122)
def isDb (b : UInt8) : Bool := decide (48 ≤ b.toNat) && decide (b.toNat ≤ 57)
def isBb (b : UInt8) : Bool := decide (b.toNat = 32 ∨ b.toNat = 9 ∨ b.toNat = 13 ∨ b.toNat = 10)
def isRb (b : UInt8) : Bool := decide (b.toNat ≠ 10)
def isSb (b : UInt8) : Bool := decide (b.toNat = 43 ∨ b.toNat = 45 ∨ b.toNat = 40 ∨ b.toNat = 41 ∨ b.toNat = 44 ∨ b.toNat = 59 ∨ b.toNat = 61 ∨ b.toNat = 60 ∨ b.toNat = 62)
/-- how far such bytes stand -/
def runTo (p : UInt8 → Bool) (s : ByteArray) : Nat → Nat → Nat
  | 0, i => i
  | f + 1, i => if i < s.size ∧ p (bt s i) = true then runTo p s f (i + 1) else i
def runE (p : UInt8 → Bool) (s : ByteArray) (i : Nat) : Nat := runTo p s (s.size - i) i
section
variable {p : UInt8 → Bool} {s : ByteArray}
theorem runTo_ge : ∀ f i, i ≤ runTo p s f i
  | 0, i => Nat.le_refl _
  | f + 1, i => by
    show i ≤ if _ then _ else _
    split
    · exact Nat.le_trans (Nat.le_succ _) (runTo_ge f (i + 1))
    · exact Nat.le_refl _
theorem runTo_le : ∀ f i, i ≤ s.size → runTo p s f i ≤ s.size
  | 0, i, h => h
  | f + 1, i, h => by
    show (if _ then _ else _) ≤ _
    split
    · rename_i hq
      exact runTo_le f (i + 1) hq.1
    · exact h
theorem runTo_in : ∀ f i j, i ≤ j → j < runTo p s f i → p (bt s j) = true
  | 0, i, j, h1, h2 => by
    have h2' : j < i := h2
    omega
  | f + 1, i, j, h1, h2 => by
    have h2' : j < if i < s.size ∧ p (bt s i) = true then runTo p s f (i + 1) else i := h2
    split at h2'
    · rename_i hq
      by_cases hj : j = i
      · subst hj; exact hq.2
      · exact runTo_in f (i + 1) j (by omega) h2'
    · omega
theorem runTo_end : ∀ f i, s.size - i ≤ f → runTo p s f i < s.size → p (bt s (runTo p s f i)) = false
  | 0, i, h1, h2 => by
    have h2' : i < s.size := h2
    omega
  | f + 1, i, h1, h2 => by
    by_cases hq : i < s.size ∧ p (bt s i) = true
    · have e : runTo p s (f + 1) i = runTo p s f (i + 1) := if_pos hq
      rw [e] at h2 ⊢
      exact runTo_end f (i + 1) (by omega) h2
    · have e : runTo p s (f + 1) i = i := if_neg hq
      rw [e] at h2 ⊢
      cases hb : p (bt s i) with
      | false => rfl
      | true => exact absurd ⟨h2, hb⟩ hq
theorem runE_ge (i : Nat) : i ≤ runE p s i := runTo_ge _ _
theorem runE_le {i : Nat} (h : i ≤ s.size) : runE p s i ≤ s.size := runTo_le _ _ h
theorem runE_in {i j : Nat} (h1 : i ≤ j) (h2 : j < runE p s i) : p (bt s j) = true := runTo_in _ _ _ h1 h2
theorem runE_end {i : Nat} (h : runE p s i < s.size) : p (bt s (runE p s i)) = false := runTo_end _ _ (Nat.le_refl _) h
/-- the run's end, told by what stands there -/
theorem runE_is {i e : Nat} (h1 : i ≤ e) (h2 : e ≤ s.size) (h3 : ∀ j, i ≤ j → j < e → p (bt s j) = true) (h4 : e < s.size → p (bt s e) = false) : runE p s i = e := by
  have a1 : i ≤ runE p s i := runE_ge i
  have a2 : runE p s i ≤ s.size := runE_le (by omega)
  apply Nat.le_antisymm
  · apply Classical.byContradiction
    intro h
    have := runE_in (p := p) (s := s) h1 (by omega)
    rw [h4 (by omega)] at this
    cases this
  · apply Classical.byContradiction
    intro h
    have := h3 _ a1 (by omega)
    rw [runE_end (p := p) (s := s) (i := i) (by omega)] at this
    cases this
theorem runE_stop {i : Nat} (h : i ≤ s.size) (hp : i < s.size → p (bt s i) = false) : runE p s i = i := runE_is (Nat.le_refl _) h (fun j h1 h2 => by omega) hp
theorem runE_skip {i k : Nat} (h1 : i ≤ k) (h2 : k ≤ s.size) (h3 : ∀ j, i ≤ j → j < k → p (bt s j) = true) : runE p s i = runE p s k := by
  have a1 : k ≤ runE p s k := runE_ge k
  refine runE_is (by omega) (runE_le h2) (fun j b1 b2 => ?_) runE_end
  by_cases hj : j < k
  · exact h3 j b1 hj
  · exact runE_in (by omega) b2
theorem runE_step {i : Nat} (h : i < s.size) (hp : p (bt s i) = true) : runE p s i = runE p s (i + 1) :=
  runE_skip (Nat.le_succ _) h fun j h1 h2 => by
    obtain rfl : j = i := by omega
    exact hp
theorem runE_more {i : Nat} (h : i < s.size) (hp : p (bt s i) = true) : i + 1 ≤ runE p s i := by rw [runE_step h hp]; exact runE_ge _
end
/-- a part of a text -/
theorem ext_size {s : ByteArray} {b e : Nat} (h1 : b ≤ e) (h2 : e ≤ s.size) : (s.extract b e).size = e - b := by
  rw [ByteArray.size_extract]
  omega
theorem bt_ext {s : ByteArray} {b e i : Nat} (h1 : b + i < e) (h2 : e ≤ s.size) : bt (s.extract b e) i = bt s (b + i) := by
  have h : i < (s.extract b e).size := by rw [ext_size (by omega) h2]; omega
  rw [← bt_at h, ← bt_at (show b + i < s.size by omega)]
  rw [ByteArray.getElem_extract]
theorem ext_ext {s : ByteArray} {b k : Nat} (h1 : b + k ≤ s.size) : (s.extract b s.size).extract 0 k = s.extract b (b + k) := by
  rw [ByteArray.extract_extract]
  congr 1
  omega
theorem runE_ext {p : UInt8 → Bool} {s : ByteArray} {b i : Nat} (h : b + i ≤ s.size) : runE p (s.extract b s.size) i = runE p s (b + i) - b := by
  have a1 : b + i ≤ runE p s (b + i) := runE_ge _
  have a2 : runE p s (b + i) ≤ s.size := runE_le h
  have hz : (s.extract b s.size).size = s.size - b := ext_size (by omega) (Nat.le_refl _)
  refine runE_is (by omega) (by omega) (fun j h1 h2 => ?_) (fun h1 => ?_)
  · rw [bt_ext (by omega) (Nat.le_refl _)]
    exact runE_in (i := b + i) (by omega) (by omega)
  · rw [bt_ext (by omega) (Nat.le_refl _), show b + (runE p s (b + i) - b) = runE p s (b + i) by omega]
    exact runE_end (by omega)
/-- what so many digits are -/
def numD (s : ByteArray) (i : Nat) : Nat → Nat
  | 0 => 0
  | k + 1 => 10 * numD s i k + ((bt s (i + k)).toNat - 48)
theorem numD_ext {s : ByteArray} {b i : Nat} : ∀ k, b + i + k ≤ s.size → numD (s.extract b s.size) i k = numD s (b + i) k
  | 0, _ => rfl
  | k + 1, h => by
    show 10 * numD (s.extract b s.size) i k + _ = 10 * numD s (b + i) k + _
    rw [numD_ext k (by omega), bt_ext (by omega) (Nat.le_refl _), Nat.add_assoc]
theorem numD_lt {s : ByteArray} {i : Nat} : ∀ k, (∀ j, i ≤ j → j < i + k → isDb (bt s j) = true) → numD s i k < 10 ^ k
  | 0, _ => Nat.one_pos
  | k + 1, h => by
    have h1 := numD_lt k (fun j a b => h j a (by omega))
    have h2 := h (i + k) (by omega) (by omega)
    unfold isDb at h2
    simp only [Bool.and_eq_true, decide_eq_true_eq] at h2
    show 10 * numD s i k + _ < _
    rw [Nat.pow_succ]
    omega
/-- a rune that is no byte below 128 -/
theorem dec_high {s : ByteArray} {i : Nat} (h : i < s.size) (hb : 128 ≤ (bt s i).toNat) :
    128 ≤ (Utf8.decode s i).1 ∧ 1 ≤ (Utf8.decode s i).2 ∧ i + (Utf8.decode s i).2 ≤ s.size ∧ ∀ k, k < (Utf8.decode s i).2 → 128 ≤ (bt s (i + k)).toNat := by
  have e0 : (s.get! (i + 0)).toNat = (bt s i).toNat := by rw [get_at s i h, bt_at h]
  obtain ⟨q1, q2⟩ := decode_high s i h (by rw [bt_at h]; exact hb)
  have hk : ∀ k, (decide (i + k < s.size) && (s.get! (i + k)).toNat / 64 == 2) = true → i + k < s.size ∧ 128 ≤ (bt s (i + k)).toNat := fun k hq => by
    simp only [Bool.and_eq_true, decide_eq_true_eq, beq_iff_eq] at hq
    have e : (s.get! (i + k)).toNat = (bt s (i + k)).toNat := by
      have := get_at s (i + k) hq.1
      rw [Nat.add_zero] at this
      rw [this, bt_at hq.1]
    rw [e] at hq
    exact ⟨hq.1, by omega⟩
  refine ⟨q1, q2, ?_⟩
  have one : i + 1 ≤ s.size ∧ ∀ k, k < 1 → 128 ≤ (bt s (i + k)).toNat := ⟨h, fun k hk => by
    obtain rfl : k = 0 := by omega
    exact hb⟩
  clear q1 q2
  have hn : ¬ (s.get! (i + 0)).toNat < 128 := by rw [e0]; omega
  simp only [Utf8.decode, hn, if_false]
  split
  · rename_i c1
    simp only [Bool.and_eq_true] at c1
    have k1 := hk 1 (by simp only [Bool.and_eq_true]; exact c1.2)
    split
    · refine ⟨by omega, fun k hlt => ?_⟩
      have hlt' : k < 2 := hlt
      match k, hlt' with
      | 0, _ => exact hb
      | 1, _ => exact k1.2
    · exact one
  · split
    · rename_i _ c1
      simp only [Bool.and_eq_true] at c1
      have k1 := hk 1 (by simp only [Bool.and_eq_true]; exact c1.1.2)
      have k2 := hk 2 (by simp only [Bool.and_eq_true]; exact c1.2)
      split
      · refine ⟨by omega, fun k hlt => ?_⟩
        have hlt' : k < 3 := hlt
        match k, hlt' with
        | 0, _ => exact hb
        | 1, _ => exact k1.2
        | 2, _ => exact k2.2
      · exact one
    · split
      · rename_i _ _ c1
        simp only [Bool.and_eq_true] at c1
        have k1 := hk 1 (by simp only [Bool.and_eq_true]; exact c1.1.1.2)
        have k2 := hk 2 (by simp only [Bool.and_eq_true]; exact c1.1.2)
        have k3 := hk 3 (by simp only [Bool.and_eq_true]; exact c1.2)
        split
        · refine ⟨by omega, fun k hlt => ?_⟩
          have hlt' : k < 4 := hlt
          match k, hlt' with
          | 0, _ => exact hb
          | 1, _ => exact k1.2
          | 2, _ => exact k2.2
          | 3, _ => exact k3.2
        · exact one
      · exact one
theorem dec_low {s : ByteArray} {i : Nat} (h : i < s.size) (hb : (bt s i).toNat < 128) : Utf8.decode s i = ((bt s i).toNat, 1) := by
  rw [decode_ascii s i h (by rw [bt_at h]; exact hb), bt_at h]
end Go.Proofs.YtpapcnogbmjpjaaGreatDoor
