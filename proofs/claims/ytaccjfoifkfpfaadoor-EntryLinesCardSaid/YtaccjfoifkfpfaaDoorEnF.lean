/- A row as a text. -/
import Derived.Test.YtaccjfoifkfpfaaDoorEnE
import Derived.Test.YtaccjfoifkfpfaaDoorItoaShelf
import Derived.Lib.SmallJoins
import Derived.Lib.AppendIntMem
import Derived.Lib.ItoaLen
namespace Go.Proofs.YtaccjfoifkfpfaaDoor
open Go.RowKit
set_option maxRecDepth 100000
set_option linter.unusedSimpArgs false
set_option linter.unusedVariables false

/-- the library's table is as it was laid -/
def TabW (w : World) : Prop := Lib.TabIs Tryd.prog w "internal/strconv.uint64pow10" .u64 Lib.pow10Tab
theorem gPow : Tryd.prog.globalNamed "internal/strconv.uint64pow10" = some 0 := by kernel_rfl
theorem TabW.below {w w' : World} (h : TabW w) (hb : Below w.heap.size w w') : TabW w' := Go.Joins.tab_stays gPow h hb (Nat.le_refl _)
def itoaS (n : Int) : ByteArray := ⟨(Lib.itoa n).toArray⟩
theorem code_itoa (n : Int) (h0 : -9223372036854775808 ≤ n) (h1 : n ≤ 9223372036854775807) (w : World) (h : TabW w) : Calls Tryd.prog 32 #[.int .i64 n] w fun e w' => e = .returned (.string (itoaS n)) ∧ Below w.heap.size w w' := by
  refine (Tryd.strconv_Itoa n h0 h1 w h).mono ?_
  rintro e w' ⟨h1, k, os, rfl⟩
  exact ⟨h1, Lib.below_grow _ _ (Nat.le_refl _) _ _⟩
/-- a blank, and one more text behind it -/
def cat (t s : ByteArray) : ByteArray := t ++ ((⟨#[32]⟩ : ByteArray) ++ s)
theorem cat_size (t s : ByteArray) : (cat t s).size = t.size + (1 + s.size) := by
  unfold cat
  rw [ByteArray.size_append, ByteArray.size_append]
  rfl
def sideS (q : Bool) : ByteArray := if q = true then ⟨#[83]⟩ else ⟨#[80]⟩
def colV (x : RowV) : Nat → Int
  | 0 => x.rate
  | 1 => x.base
  | 2 => x.tax
  | 3 => owedV x
  | _ => x.deduct
def accV (x : RowV) : Nat → ByteArray
  | 0 => cat (nameV x.treat) (sideS x.sale)
  | k + 1 => cat (accV x k) (itoaS (colV x k))
def lineV (x : RowV) : ByteArray := if lateB x = true then cat (accV x 5) ⟨#[76]⟩ else accV x 5
/-- its numbers are ints -/
def RowB (x : RowV) : Prop := ∀ k, -9223372036854775808 ≤ colV x k ∧ colV x k ≤ 9223372036854775807
theorem ite_size {c : Prop} [Decidable c] {a b : ByteArray} {n : Nat} (h1 : a.size ≤ n) (h2 : b.size ≤ n) : (if c then a else b).size ≤ n := by
  split
  · exact h1
  · exact h2
theorem name_size (t : Int) : (nameV t).size ≤ 40 := by
  unfold nameV
  repeat refine ite_size (by decide) ?_
  decide
theorem acc_size (x : RowV) (h : RowB x) : ∀ k, (accV x k).size ≤ 60 + 30 * k := by
  intro k
  induction k with
  | zero =>
    show (cat _ _).size ≤ _
    rw [cat_size]
    have h1 := name_size x.treat
    have h2 : (sideS x.sale).size = 1 := by unfold sideS; split <;> rfl
    omega
  | succ k ih =>
    show (cat _ _).size ≤ _
    rw [cat_size]
    have h1 := Lib.itoa_length_le (colV x k) (h k).1 (h k).2
    have h2 : (itoaS (colV x k)).size = (Lib.itoa (colV x k)).length := by unfold itoaS; simp [ByteArray.size]
    omega
theorem code_write (s t : ByteArray) (b : Nat) (w : World) (h : w.heap[b]? = some (.cells #[.string t] 9 (0, 0))) (hs : s.size ≤ 1000) (ht : t.size ≤ 1000) :
    Calls Tryd.prog 29 #[.string s, .pointer (some ⟨b, 0, none⟩)] w fun e w' => e = .returned (.tuple #[]) ∧ w' = w.setCell ⟨b, 0, none⟩ (.string (cat t s)) := by
  have c0 := (cell_of_row w b 0 _ _ _ h).trans rfl
  have y0 := frozen_of_row w b 0 _ _ h
  have k1 : ¬ 9223372036854775807 < 1 + s.size := by omega
  have k2 : ¬ 9223372036854775807 < t.size + (1 + s.size) := by omega
  clear hs ht
  unfold cat
  go_enter Tryd.func29, Tryd.ntmps29
  go_wp2
  go_end0
  exact ⟨rfl, rfl⟩
theorem code_columns (w : World) : Calls Tryd.prog 31 #[] w fun e w' => ∃ g, e = .returned (.slice (some ⟨g, 0, none⟩) 5 5) ∧ w'.heap[g]? = some (.cells #[.string ⟨#[114, 97, 116, 101]⟩, .func (.func 10) #[] #[], .string ⟨#[98, 97, 115, 101]⟩, .func (.func 8) #[] #[], .string ⟨#[116, 97, 120]⟩, .func (.func 8) #[] #[], .string ⟨#[111, 117, 116]⟩, .func (.func 8) #[] #[], .string ⟨#[105, 110]⟩, .func (.func 8) #[] #[]] 45 (0, 0)) ∧ w.heap.size ≤ g ∧ Below w.heap.size w w' := by
  go_enter Tryd.func31, Tryd.ntmps31
  go_wp2
  go_ret
  exact ⟨w.heap.size, rfl, heap_alloc_new _ _, Nat.le_refl _, below_alloc _ _⟩
end Go.Proofs.YtaccjfoifkfpfaaDoor
