/- Brackets, and signs, that stand in one another. -/
import Derived.Test.YtpapcnogbmjpjaaGreatDoorK40
namespace Go.Proofs.YtpapcnogbmjpjaaGreatDoor
open Go.RowKit
set_option maxRecDepth 100000
set_option linter.unusedSimpArgs false
set_option linter.unusedVariables false
attribute [local go_sem] Oper.semAt_some

def tokDs (b : UInt8) (i n : Nat) : List TokV := (List.range n).map fun j => (3, ((i + j : Nat) : Int), ⟨#[b]⟩, 0)
def tokD (o c : UInt8) (n m : Nat) : List TokV := tokDs o 0 n ++ [(2, ((n : Nat) : Int), ⟨#[49]⟩, 1)] ++ tokDs c (n + 1) m
def isErr (n : Nat) (r : PR (List (Int × Sh))) : Bool := match r with
  | .flt a k => decide (64 ≤ n) && decide (a = 64) && decide (k = 82)
  | .ok l s => decide (n < 64) && decide (chkS s l = 0)
  | .out => false
theorem deep_opens : (List.range 201).all (fun n => isErr n (aloneP ((2 * n + 1 : Nat) : Int) ⟨tokD 40 41 n n, false, false⟩)) = true := by kernel_rfl
theorem deep_signs : (List.range 201).all (fun n => isErr n (aloneP ((n + 1 : Nat) : Int) ⟨tokD 45 41 n 0, false, false⟩)) = true := by kernel_rfl
theorem bt_toList {L : List UInt8} {i : Nat} {b : UInt8} (h : L[i]? = some b) : bt ⟨L.toArray⟩ i = b := by
  obtain ⟨h1, h2⟩ := List.getElem?_eq_some_iff.1 h
  have hs : i < (⟨L.toArray⟩ : ByteArray).size := by simpa [ByteArray.size] using h1
  rw [← bt_at hs]
  show L.toArray[i] = b
  simpa using h2
theorem ext_one {s : ByteArray} {i : Nat} (h : i < s.size) : s.extract i (i + 1) = ⟨#[bt s i]⟩ := by
  apply ByteArray.ext
  apply Array.ext
  · have := ext_size (s := s) (b := i) (e := i + 1) (by omega) h
    have h2 : (s.extract i (i + 1)).data.size = 1 := by rw [show i + 1 - i = 1 by omega] at this; exact this
    rw [h2]
    rfl
  · intro k h1 h2
    have hk : k = 0 := by
      have h3 : k < 1 := h2
      omega
    subst hk
    have h3 : 0 < (s.extract i (i + 1)).size := h1
    have e : (s.extract i (i + 1)).data[0] = (s.extract i (i + 1))[0]'h3 := rfl
    rw [e, ByteArray.getElem_extract]
    show _ = bt s i
    rw [← bt_at h]
    rfl
def isDeepB (b : UInt8) : Bool := !isLb b && !isDb b && isSb b && !isBb b && !(b.toNat == 35)
theorem lex_sign {s : ByteArray} {i : Nat} {acc : List TokV} {b : UInt8} (h : i < s.size) (hb : bt s i = b) (hs : isDeepB b = true) : lexI s i acc = lexI s (i + 1) (acc ++ [(3, ((i : Nat) : Int), ⟨#[b]⟩, 0)]) := by
  simp only [isDeepB, Bool.and_eq_true, Bool.not_eq_true', beq_eq_false_iff_ne] at hs
  obtain ⟨⟨⟨⟨h1, h2⟩, h3⟩, h4⟩, h5⟩ := hs
  have ht : tokAt s i = some (3, ((i : Nat) : Int), ⟨#[b]⟩, 0) := by
    unfold tokAt
    rw [hb, if_neg (by rw [h1]; decide), if_neg (by rw [h2]; decide), if_pos h3, ext_one h, hb]
  rw [lexI_tok h (by rw [hb]; exact h4) (by rw [hb]; exact h5) ht]
  rfl
theorem lex_signs {s : ByteArray} {b : UInt8} (hs : isDeepB b = true) : ∀ (n i : Nat) (acc : List TokV), i + n ≤ s.size → (∀ j, j < n → bt s (i + j) = b) → lexI s i acc = lexI s (i + n) (acc ++ tokDs b i n)
  | 0, i, acc, _, _ => by simp [tokDs]
  | n + 1, i, acc, hl, hb => by
    rw [lex_signs hs n i acc (by omega) (fun j hj => hb j (by omega)), lex_sign (by omega) (hb n (by omega)) hs]
    have e : tokDs b i (n + 1) = tokDs b i n ++ [(3, ((i + n : Nat) : Int), ⟨#[b]⟩, 0)] := by unfold tokDs; rw [List.range_succ, List.map_append]; rfl
    rw [e, List.append_assoc]
    rfl
theorem lex_one {s : ByteArray} {i : Nat} {acc : List TokV} (h : i < s.size) (hb : bt s i = 49) (hn : i + 1 < s.size → isDb (bt s (i + 1)) = false) : lexI s i acc = lexI s (i + 1) (acc ++ [(2, ((i : Nat) : Int), ⟨#[49]⟩, 1)]) := by
  have hr : runE isDb s i = i + 1 := runE_is (by omega) (by omega) (fun j h1 h2 => by
    obtain rfl : j = i := by omega
    rw [hb]; decide) hn
  have hd : numD s i 1 = 1 := by
    show 10 * numD s i 0 + ((bt s (i + 0)).toNat - 48) = 1
    rw [Nat.add_zero, hb]
    rfl
  have ht : tokAt s i = some (2, ((i : Nat) : Int), ⟨#[49]⟩, 1) := by
    unfold tokAt
    rw [hr, if_neg (by rw [hb]; decide), if_pos (by rw [hb]; decide), if_pos (by omega), ext_one h, hb, show i + 1 - i = 1 by omega, hd]
    rfl
  rw [lexI_tok h (by rw [hb]; decide) (by rw [hb]; decide) ht]
  rfl
/-- so many signs, a one, so many signs -/
def deepL (o c : UInt8) (n m : Nat) : List UInt8 := List.replicate n o ++ [49] ++ List.replicate m c
def deepT (o c : UInt8) (n m : Nat) : ByteArray := ⟨(deepL o c n m).toArray⟩
theorem deepT_size (o c : UInt8) (n m : Nat) : (deepT o c n m).size = n + 1 + m := by
  show (deepL o c n m).toArray.size = _
  rw [List.size_toArray, deepL, List.length_append, List.length_append, List.length_replicate, List.length_replicate]
  rfl
theorem deep_lex {o c : UInt8} (ho : isDeepB o = true) (hc : isDeepB c = true) (n m : Nat) : lexI (deepT o c n m) 0 [] = (tokD o c n m, 0, 0) := by
  have hs := deepT_size o c n m
  have b1 : ∀ j, j < n → bt (deepT o c n m) (0 + j) = o := fun j hj => bt_toList (by
    rw [Nat.zero_add, deepL, List.append_assoc, List.getElem?_append_left (by simpa using hj)]
    simp [hj])
  have b2 : bt (deepT o c n m) n = 49 := bt_toList (by
    rw [deepL, List.append_assoc, List.getElem?_append_right (by simp)]
    simp)
  have b3 : ∀ j, j < m → bt (deepT o c n m) (n + 1 + j) = c := fun j hj => bt_toList (by
    rw [deepL, List.getElem?_append_right (by simp)]
    simp [hj])
  have hcd : isDb c = false := by
    simp only [isDeepB, Bool.and_eq_true, Bool.not_eq_true'] at hc
    exact hc.1.1.1.2
  rw [lex_signs ho n 0 [] (by omega) b1, Nat.zero_add, lex_one (by omega) b2 (fun h => by
    have := b3 0 (by omega)
    rw [Nat.add_zero] at this
    rw [this]
    exact hcd), lex_signs hc m (n + 1) _ (by omega) b3, lexI_end (by omega)]
  rfl
/-- what is read of them -/
theorem deep_read {o c : UInt8} (ho : isDeepB o = true) (hc : isDeepB c = true) (n m : Nat) (h : isErr n (aloneP ((n + 1 + m : Nat) : Int) ⟨tokD o c n m, false, false⟩) = true) :
    (64 ≤ n ∧ readP aloneP (deepT o c n m) = .err 64 82) ∨ (n < 64 ∧ ∃ l, readP aloneP (deepT o c n m) = .ok l) := by
  unfold readP
  rw [deep_lex ho hc, deepT_size]
  rw [if_neg (by simp)]
  dsimp only
  cases hp : aloneP ((n + 1 + m : Nat) : Int) ⟨tokD o c n m, false, false⟩ with
  | out => rw [hp] at h; cases h
  | flt a k =>
    rw [hp] at h
    simp only [isErr, Bool.and_eq_true, decide_eq_true_eq] at h
    exact .inl ⟨h.1.1, by rw [h.1.2, h.2]⟩
  | ok l s =>
    rw [hp] at h
    simp only [isErr, Bool.and_eq_true, decide_eq_true_eq] at h
    exact .inr ⟨h.1, l, by dsimp only; rw [if_neg (by rw [h.2]; simp)]⟩
end Go.Proofs.YtpapcnogbmjpjaaGreatDoor
