/- Lines that may be. -/
import Derived.Test.YtjanhgekocpobaaDocC
import Derived.Test.YtjanhgekocpobaaVatB
namespace Go.Proofs.Ytjanhgekocpobaa
open Go.RowKit
set_option maxRecDepth 100000

def inB (n a b : Int) : Bool := decide (a ≤ n) && decide (n ≤ b)
def placeB (s : ByteArray) : Bool := Vat.country (strT s)
def noneB (s : ByteArray) : Bool := s.toList.isEmpty
/-- has a line what lines of its supply have, and nothing else? -/
def supB (su : Int) (fr to_ pl : ByteArray) (gr : Bool) (co : Int) : Bool :=
  if su = 7 then gr && (placeB fr && placeB to_ && noneB pl)
  else (co == 0) && (if su = 1 then placeB fr && placeB to_ && noneB pl
    else if su = 3 ∨ su = 4 ∨ su = 5 then noneB fr && noneB to_ && placeB pl
    else if su = 2 ∨ su = 6 then noneB fr && noneB to_ && noneB pl
    else false)
def lineGood (l : LineV) (sale : Bool) : Bool :=
  supB l.1 l.2.2.1 l.2.2.2.1 l.2.2.2.2.1 l.2.2.2.2.2.2.1 l.2.2.2.2.2.2.2.1 && inB l.2.1 1 5 && inB l.2.2.2.2.2.1 0 1099511627776 && inB l.2.2.2.2.2.2.2.1 0 1099511627776 && !(sale && l.2.2.2.2.2.2.2.2)
theorem code_isFrom (n a b : Int) (w : World) : Calls Try.prog 34 #[.int .i64 n, .int .i64 a, .int .i64 b] w fun e w' => e = .returned (.bool (inB n a b)) ∧ w = w' := by
  unfold inB
  by_cases h1 : a ≤ n <;> by_cases h2 : n ≤ b
  all_goals
    go_enter Try.func34, Try.ntmps34
    go_wp2
    go_ret
    exact ⟨ret_bool (by simp [h1, h2]), rfl⟩
theorem ref_in (n a b : Int) (w : World) : Calls Try.prog 29 #[.int .i64 n, .int .i64 a, .int .i64 b] w fun e w' => e = .returned (.bool (inB n a b)) ∧ w = w' := by
  unfold inB
  by_cases h1 : a ≤ n <;> by_cases h2 : n ≤ b
  all_goals
    go_enter Try.func29, Try.ntmps29
    go_wp2
    go_ret
    exact ⟨ret_bool (by simp [h1, h2]), rfl⟩
set_option maxHeartbeats 4000000 in
theorem code_isSupplied (su ca : Int) (fr to_ pl : ByteArray) (am : Int) (gr : Bool) (co : Int) (mi : Bool) (w : World) (hf : fr.size ≤ 140737488351232) (ht : to_.size ≤ 140737488351232) (hp : pl.size ≤ 140737488351232) (V : Bool) (hV : supB su fr to_ pl gr co = V) :
    Calls Try.prog 58 #[.agg #[.int .i64 su, .int .i64 ca, .string fr, .string to_, .string pl, .int .i64 am, .bool gr, .int .i64 co, .bool mi]] w fun e w' => e = .returned (.bool V) ∧ Below w.heap.size w w' := by
  have HA : Hid (∀ (s : ByteArray) (_ : s.size ≤ 140737488351232) (W : World), Calls Try.prog 36 #[.string s] W fun e w' => e = .returned (.bool (placeB s)) ∧ W = w') := Lib.hid (fun s hs W => code_country s W (by omega))
  unfold supB at hV
  by_cases s7 : su = 7
  · rw [if_pos s7] at hV
    subst s7
    cases gr with
    | false =>
      simp only [Bool.false_and] at hV
      subst hV
      go_enter Try.func58, Try.ntmps58
      go_wp2
      go_ret
      exact ⟨by first | rfl | simp, below_alloc _ _⟩
    | true =>
      simp only [Bool.true_and] at hV
      cases h1 : placeB fr with
      | false =>
        rw [h1] at hV; simp only [Bool.false_and] at hV; subst hV
        go_enter Try.func58, Try.ntmps58
        go_wp2_with (go_at_call 36; refine (HA.out _ (by assumption) _).mono ?_; rintro e w1 ⟨rfl, rfl⟩)
        go_ret
        exact ⟨by first | rfl | simp, below_alloc _ _⟩
      | true =>
        rw [h1] at hV; simp only [Bool.true_and] at hV
        cases h2 : placeB to_ with
        | false =>
          rw [h2] at hV; simp only [Bool.false_and] at hV; subst hV
          go_enter Try.func58, Try.ntmps58
          go_wp2_with (go_at_call 36; refine (HA.out _ (by assumption) _).mono ?_; rintro e w1 ⟨rfl, rfl⟩)
          go_ret
          exact ⟨by first | rfl | simp, below_alloc _ _⟩
        | true =>
          rw [h2] at hV; simp only [Bool.true_and] at hV
          unfold noneB at hV; subst hV
          go_enter Try.func58, Try.ntmps58
          go_wp2_with (go_at_call 36; refine (HA.out _ (by assumption) _).mono ?_; rintro e w1 ⟨rfl, rfl⟩)
          go_ret
          exact ⟨by first | rfl | simp, below_alloc _ _⟩
  · rw [if_neg s7] at hV
    have s7' : (su == 7) = false := beq_false_of_ne s7
    have n7 : (su != 7) = true := bne_iff_ne.2 s7
    by_cases hc0 : ¬ co = 0
    · have hc : (co == 0) = false := beq_false_of_ne hc0
      have nc : (co != 0) = true := bne_iff_ne.2 hc0
      rw [hc] at hV
      simp only [Bool.false_and] at hV
      subst hV
      go_enter Try.func58, Try.ntmps58
      go_wp2
      go_ret
      exact ⟨by first | rfl | simp, below_alloc _ _⟩
    · obtain rfl : co = 0 := Decidable.not_not.1 hc0
      clear hc0
      rw [show ((0 : Int) == 0) = true from rfl] at hV
      simp only [Bool.true_and] at hV
      by_cases s1 : su = 1
      · subst s1
        rw [if_pos rfl] at hV
        clear s7' s7 n7
        cases h1 : placeB fr with
        | false =>
          rw [h1] at hV; simp only [Bool.false_and] at hV; subst hV
          go_enter Try.func58, Try.ntmps58
          go_wp2_with (go_at_call 36; refine (HA.out _ (by assumption) _).mono ?_; rintro e w1 ⟨rfl, rfl⟩)
          go_ret
          exact ⟨by first | rfl | simp, below_alloc _ _⟩
        | true =>
          rw [h1] at hV; simp only [Bool.true_and] at hV
          cases h2 : placeB to_ with
          | false =>
            rw [h2] at hV; simp only [Bool.false_and] at hV; subst hV
            go_enter Try.func58, Try.ntmps58
            go_wp2_with (go_at_call 36; refine (HA.out _ (by assumption) _).mono ?_; rintro e w1 ⟨rfl, rfl⟩)
            go_ret
            exact ⟨by first | rfl | simp, below_alloc _ _⟩
          | true =>
            rw [h2] at hV; simp only [Bool.true_and] at hV
            unfold noneB at hV; subst hV
            go_enter Try.func58, Try.ntmps58
            go_wp2_with (go_at_call 36; refine (HA.out _ (by assumption) _).mono ?_; rintro e w1 ⟨rfl, rfl⟩)
            go_ret
            exact ⟨by first | rfl | simp, below_alloc _ _⟩
      rw [if_neg s1] at hV
      by_cases s345 : su = 3 ∨ su = 4 ∨ su = 5
      · rw [if_pos s345] at hV
        clear s1 s7' s7 n7
        rcases s345 with rfl | rfl | rfl
        ·
          cases h1 : noneB fr with
          | false =>
            rw [h1] at hV; unfold noneB at h1; simp only [Bool.false_and] at hV; subst hV
            go_enter Try.func58, Try.ntmps58
            go_wp2
            go_ret
            exact ⟨by first | rfl | simp, below_alloc _ _⟩
          | true =>
            rw [h1] at hV; unfold noneB at h1; simp only [Bool.true_and] at hV
            cases h2 : noneB to_ with
            | false =>
              rw [h2] at hV; unfold noneB at h2; simp only [Bool.false_and] at hV; subst hV
              go_enter Try.func58, Try.ntmps58
              go_wp2
              go_ret
              exact ⟨by first | rfl | simp, below_alloc _ _⟩
            | true =>
              rw [h2] at hV; unfold noneB at h2; simp only [Bool.true_and] at hV
              subst hV
              go_enter Try.func58, Try.ntmps58
              go_wp2_with (go_at_call 36; refine (HA.out _ (by assumption) _).mono ?_; rintro e w1 ⟨rfl, rfl⟩)
              go_ret
              exact ⟨by first | rfl | simp, below_alloc _ _⟩
        ·
          cases h1 : noneB fr with
          | false =>
            rw [h1] at hV; unfold noneB at h1; simp only [Bool.false_and] at hV; subst hV
            go_enter Try.func58, Try.ntmps58
            go_wp2
            go_ret
            exact ⟨by first | rfl | simp, below_alloc _ _⟩
          | true =>
            rw [h1] at hV; unfold noneB at h1; simp only [Bool.true_and] at hV
            cases h2 : noneB to_ with
            | false =>
              rw [h2] at hV; unfold noneB at h2; simp only [Bool.false_and] at hV; subst hV
              go_enter Try.func58, Try.ntmps58
              go_wp2
              go_ret
              exact ⟨by first | rfl | simp, below_alloc _ _⟩
            | true =>
              rw [h2] at hV; unfold noneB at h2; simp only [Bool.true_and] at hV
              subst hV
              go_enter Try.func58, Try.ntmps58
              go_wp2_with (go_at_call 36; refine (HA.out _ (by assumption) _).mono ?_; rintro e w1 ⟨rfl, rfl⟩)
              go_ret
              exact ⟨by first | rfl | simp, below_alloc _ _⟩
        ·
          cases h1 : noneB fr with
          | false =>
            rw [h1] at hV; unfold noneB at h1; simp only [Bool.false_and] at hV; subst hV
            go_enter Try.func58, Try.ntmps58
            go_wp2
            go_ret
            exact ⟨by first | rfl | simp, below_alloc _ _⟩
          | true =>
            rw [h1] at hV; unfold noneB at h1; simp only [Bool.true_and] at hV
            cases h2 : noneB to_ with
            | false =>
              rw [h2] at hV; unfold noneB at h2; simp only [Bool.false_and] at hV; subst hV
              go_enter Try.func58, Try.ntmps58
              go_wp2
              go_ret
              exact ⟨by first | rfl | simp, below_alloc _ _⟩
            | true =>
              rw [h2] at hV; unfold noneB at h2; simp only [Bool.true_and] at hV
              subst hV
              go_enter Try.func58, Try.ntmps58
              go_wp2_with (go_at_call 36; refine (HA.out _ (by assumption) _).mono ?_; rintro e w1 ⟨rfl, rfl⟩)
              go_ret
              exact ⟨by first | rfl | simp, below_alloc _ _⟩
      rw [if_neg s345] at hV
      by_cases s26 : su = 2 ∨ su = 6
      · rw [if_pos s26] at hV
        clear s1 s7' s7 n7 s345
        rcases s26 with rfl | rfl
        ·
          cases h1 : noneB fr with
          | false =>
            rw [h1] at hV; unfold noneB at h1; simp only [Bool.false_and] at hV; subst hV
            go_enter Try.func58, Try.ntmps58
            go_wp2
            go_ret
            exact ⟨by first | rfl | simp, below_alloc _ _⟩
          | true =>
            rw [h1] at hV; unfold noneB at h1; simp only [Bool.true_and] at hV
            cases h2 : noneB to_ with
            | false =>
              rw [h2] at hV; unfold noneB at h2; simp only [Bool.false_and] at hV; subst hV
              go_enter Try.func58, Try.ntmps58
              go_wp2
              go_ret
              exact ⟨by first | rfl | simp, below_alloc _ _⟩
            | true =>
              rw [h2] at hV; unfold noneB at h2; simp only [Bool.true_and] at hV
              unfold noneB at hV; subst hV
              go_enter Try.func58, Try.ntmps58
              go_wp2
              go_ret
              exact ⟨by first | rfl | simp, below_alloc _ _⟩
        ·
          cases h1 : noneB fr with
          | false =>
            rw [h1] at hV; unfold noneB at h1; simp only [Bool.false_and] at hV; subst hV
            go_enter Try.func58, Try.ntmps58
            go_wp2
            go_ret
            exact ⟨by first | rfl | simp, below_alloc _ _⟩
          | true =>
            rw [h1] at hV; unfold noneB at h1; simp only [Bool.true_and] at hV
            cases h2 : noneB to_ with
            | false =>
              rw [h2] at hV; unfold noneB at h2; simp only [Bool.false_and] at hV; subst hV
              go_enter Try.func58, Try.ntmps58
              go_wp2
              go_ret
              exact ⟨by first | rfl | simp, below_alloc _ _⟩
            | true =>
              rw [h2] at hV; unfold noneB at h2; simp only [Bool.true_and] at hV
              unfold noneB at hV; subst hV
              go_enter Try.func58, Try.ntmps58
              go_wp2
              go_ret
              exact ⟨by first | rfl | simp, below_alloc _ _⟩
      rw [if_neg s26] at hV
      subst hV
      have e1 : (su == 1) = false := beq_false_of_ne s1
      have e2 : (su == 2) = false := beq_false_of_ne (by omega)
      have e3 : (su == 3) = false := beq_false_of_ne (by omega)
      have e4 : (su == 4) = false := beq_false_of_ne (by omega)
      have e5 : (su == 5) = false := beq_false_of_ne (by omega)
      have e6 : (su == 6) = false := beq_false_of_ne (by omega)
      clear s345 s26
      go_enter Try.func58, Try.ntmps58
      go_wp2
      go_ret
      exact ⟨by first | rfl | simp, below_alloc _ _⟩
end Go.Proofs.Ytjanhgekocpobaa
