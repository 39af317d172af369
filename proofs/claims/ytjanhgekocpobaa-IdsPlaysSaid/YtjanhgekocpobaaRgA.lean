/- Currencies: which texts are one: what the closure's search says, and the program's. -/
import Derived.Test.YtjanhgekocpobaaDocO
import Derived.Test.YtjanhgekocpobaaCurShelf
import Derived.WalkMore
namespace Go.Proofs.Ytjanhgekocpobaa
open Go.RowKit
set_option maxRecDepth 100000
set_option linter.unusedSimpArgs false
set_option linter.unusedVariables false

theorem decode_letter (s : ByteArray) (i : Nat) : Vat.letter (Utf8.decode s i).1 = Vat.letter (s.get! i).toNat ∧ (Vat.letter (s.get! i).toNat = true → (Utf8.decode s i).2 = 1) := by
  unfold Utf8.decode
  simp only [Nat.add_zero]
  by_cases h : (s.get! i).toNat < 128
  · rw [if_pos h]
    exact ⟨rfl, fun _ => rfl⟩
  · rw [if_neg h]
    have hn : Vat.letter (s.get! i).toNat = false := by
      unfold Vat.letter
      simp only [Bool.and_eq_false_iff, decide_eq_false_iff_not]
      right
      omega
    rw [hn]
    have big : ∀ c : Nat, 128 ≤ c → Vat.letter c = false := fun c hc => by
      unfold Vat.letter
      simp only [Bool.and_eq_false_iff, decide_eq_false_iff_not]
      right
      omega
    refine ⟨?_, fun h => absurd h (by simp)⟩
    repeat' split
    all_goals
      refine big _ ?_
      first
        | (simp only [Utf8.runeError]; omega)
        | (simp only [ge_iff_le, Bool.and_eq_true, decide_eq_true_eq] at *; omega)
/-- the search of currency's closure finds nothing in three signs just if they are letters -/
theorem cur_find {s : ByteArray} (h : s.size = 3) : decide (0 ≤ Lib.idxFunc (fun r => !Vat.letter r) true s) = !currB s := by
  obtain ⟨⟨l⟩⟩ := s
  match l, h with
  | [a, b, c], _ =>
    have d0 := decode_letter ⟨⟨[a, b, c]⟩⟩ 0
    have d1 := decode_letter ⟨⟨[a, b, c]⟩⟩ 1
    have d2 := decode_letter ⟨⟨[a, b, c]⟩⟩ 2
    rw [show (⟨⟨[a, b, c]⟩⟩ : ByteArray).get! 0 = a from rfl] at d0
    rw [show (⟨⟨[a, b, c]⟩⟩ : ByteArray).get! 1 = b from rfl] at d1
    rw [show (⟨⟨[a, b, c]⟩⟩ : ByteArray).get! 2 = c from rfl] at d2
    have hv : currB ⟨⟨[a, b, c]⟩⟩ = (Vat.letter a.toNat && (Vat.letter b.toNat && Vat.letter c.toNat)) := rfl
    have hz : (⟨⟨[a, b, c]⟩⟩ : ByteArray).size = 3 := rfl
    rw [hv]
    unfold Lib.idxFunc
    rw [hz]
    generalize (⟨⟨[a, b, c]⟩⟩ : ByteArray) = s at d0 d1 d2 hz
    clear hv
    unfold Lib.idxFuncFrom
    rw [if_pos (by omega), d0.1]
    cases h0 : Vat.letter a.toNat with
    | false => simp
    | true =>
      rw [if_neg (by simp), d0.2 h0]
      unfold Lib.idxFuncFrom
      rw [if_pos (by omega), Nat.zero_add, d1.1]
      cases h1 : Vat.letter b.toNat with
      | false => simp
      | true =>
        rw [if_neg (by simp), d1.2 h1]
        unfold Lib.idxFuncFrom
        rw [if_pos (by omega), show 1 + 1 = 2 from rfl, d2.1]
        cases h2 : Vat.letter c.toNat with
        | false => simp
        | true =>
          rw [if_neg (by simp)]
          simp [Lib.idxFuncFrom]
theorem code_cur1 (r : Nat) (w : World) : Calls Try.prog 56 #[.int .i32 (r : Int)] w fun e w' => e = .returned (.bool (!Vat.letter r)) ∧ w = w' := by
  go_enter Try.func56, Try.ntmps56
  go_wp2
  all_goals
    go_ret
    refine ⟨ret_bool ?_, rfl⟩
    unfold Vat.letter
    rw [Bool.eq_iff_iff]
    simp
    try omega
theorem cur_pred (w : World) : PredAt Try.prog 56 #[] encR (fun r => !Vat.letter r) w := fun W x _ => (code_cur1 x W).mono fun e w' h => ⟨h.1, 0, h.2.symm⟩
theorem code_isCurrency (s : ByteArray) (w : World) (h : s.size ≤ 9223372036854775807) : Calls Try.prog 38 #[.string s] w fun e w' => e = .returned (.bool (currB s)) ∧ Below w.heap.size w w' := by
  have h2 : (s.size : Int) ≤ 9223372036854775807 := by omega
  by_cases h0 : s.size = 3
  · have HF := cur_find h0
    have h3 : (s.size : Int) = 3 := by omega
    have HC : Hid (∀ W, Calls Try.prog 55 #[.string s, .func (.func 56) #[] #[]] W fun e w' => e = .returned (.bool (!currB s)) ∧ Below W.heap.size W w') := Lib.hid (fun W => by rw [← HF]; exact Try.strings_ContainsFunc 56 #[] (fun _ _ => rfl) _ s W (cur_pred W))
    clear HF h0
    go_enter Try.func38, Try.ntmps38
    go_wp2_with (go_at_call 55; refine (HC.out _).mono ?_; rintro e w1 ⟨rfl, hb⟩; have HB := Lib.hid hb; clear hb)
    go_ret
    exact ⟨ret_bool (by simp), HB.out⟩
  · rw [curr_not h0]
    have h3 : ((s.size : Int) == 3) = false := beq_false_of_ne (by omega)
    clear h0
    go_enter Try.func38, Try.ntmps38
    go_wp2
    go_ret
    exact ⟨rfl, Below.refl _ _⟩
end Go.Proofs.Ytjanhgekocpobaa
