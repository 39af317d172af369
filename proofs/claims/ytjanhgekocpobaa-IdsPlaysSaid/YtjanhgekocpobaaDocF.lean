/- Lines that may be: the document's. -/
import Derived.Test.YtjanhgekocpobaaDocD
namespace Go.Proofs.Ytjanhgekocpobaa
open Go.RowKit
set_option maxRecDepth 100000
set_option linter.unusedSimpArgs false

set_option maxHeartbeats 4000000 in
theorem ref_goodLine (su ca : Int) (fr to_ pl : ByteArray) (am : Int) (gr : Bool) (co : Int) (mi : Bool) (sale : Bool) (w : World) (hf : fr.size ≤ 140737488351232) (ht : to_.size ≤ 140737488351232) (hp : pl.size ≤ 140737488351232) (V : Bool) (hV : (supB su fr to_ pl gr co && inB ca 1 5 && inB am 0 1099511627776 && inB co 0 1099511627776 && !(sale && mi)) = V) :
    Calls Try.prog 33 #[.agg #[.int .i64 su, .int .i64 ca, .string fr, .string to_, .string pl, .int .i64 am, .bool gr, .int .i64 co, .bool mi], .bool sale] w fun e w' => e = .returned (.bool V) ∧ Below w.heap.size w w' := by
  have HA : Hid (∀ (s : ByteArray) (_ : s.size ≤ 140737488351232) (W : World), Calls Try.prog 30 #[.string s] W fun e w' => e = .returned (.bool (placeB s)) ∧ W = w') := Lib.hid (fun s hs W => ref_country s W (by omega))
  cases h0 : inB su 1 7 with
  | false =>
    have hs : supB su fr to_ pl gr co = false := by
      unfold inB at h0
      have h9 : su < 1 ∨ 7 < su := by
        rcases Decidable.em (1 ≤ su) with a | a
        · rcases Decidable.em (su ≤ 7) with b | b
          · simp [a, b] at h0
          · omega
        · omega
      unfold supB
      rw [if_neg (by omega), if_neg (by omega), if_neg (by omega), if_neg (by omega), Bool.and_false]
    rw [hs] at hV
    simp only [Bool.false_and] at hV
    subst hV
    clear hs
    go_enter Try.func33, Try.ntmps33
    go_wp2_with (first
      | (go_at_call 30; refine (HA.out _ (by assumption) _).mono ?_; rintro e w1 ⟨rfl, rfl⟩)
      | (go_at_call 29; refine (ref_in _ _ _ _).mono ?_; rintro e w2 ⟨rfl, rfl⟩))
    go_ret
    exact ⟨by first | rfl | simp, below_alloc _ _⟩
  | true =>
    cases h1 : inB ca 1 5 with
    | false =>
      rw [h1] at hV
      simp only [Bool.false_and, Bool.true_and, Bool.and_false, Bool.and_true] at hV
      subst hV
      go_enter Try.func33, Try.ntmps33
      go_wp2_with (first
        | (go_at_call 30; refine (HA.out _ (by assumption) _).mono ?_; rintro e w1 ⟨rfl, rfl⟩)
        | (go_at_call 29; refine (ref_in _ _ _ _).mono ?_; rintro e w2 ⟨rfl, rfl⟩))
      go_ret
      exact ⟨by first | rfl | simp, below_alloc _ _⟩
    | true =>
      rw [h1] at hV
      cases h2 : inB am 0 1099511627776 with
      | false =>
        rw [h2] at hV
        simp only [Bool.false_and, Bool.true_and, Bool.and_false, Bool.and_true] at hV
        subst hV
        go_enter Try.func33, Try.ntmps33
        go_wp2_with (first
          | (go_at_call 30; refine (HA.out _ (by assumption) _).mono ?_; rintro e w1 ⟨rfl, rfl⟩)
          | (go_at_call 29; refine (ref_in _ _ _ _).mono ?_; rintro e w2 ⟨rfl, rfl⟩))
        go_ret
        exact ⟨by first | rfl | simp, below_alloc _ _⟩
      | true =>
        rw [h2] at hV
        cases h3 : inB co 0 1099511627776 with
        | false =>
          rw [h3] at hV
          simp only [Bool.false_and, Bool.true_and, Bool.and_false, Bool.and_true] at hV
          subst hV
          go_enter Try.func33, Try.ntmps33
          go_wp2_with (first
            | (go_at_call 30; refine (HA.out _ (by assumption) _).mono ?_; rintro e w1 ⟨rfl, rfl⟩)
            | (go_at_call 29; refine (ref_in _ _ _ _).mono ?_; rintro e w2 ⟨rfl, rfl⟩))
          go_ret
          exact ⟨by first | rfl | simp, below_alloc _ _⟩
        | true =>
          rw [h3] at hV
          simp only [Bool.and_true] at hV
          cases h4 : (sale && mi) with
          | true =>
            rw [h4] at hV
            simp only [Bool.not_true, Bool.and_false] at hV
            subst hV
            rw [Bool.and_eq_true] at h4
            obtain ⟨rfl, rfl⟩ := h4
            go_enter Try.func33, Try.ntmps33
            go_wp2_with (first
              | (go_at_call 30; refine (HA.out _ (by assumption) _).mono ?_; rintro e w1 ⟨rfl, rfl⟩)
              | (go_at_call 29; refine (ref_in _ _ _ _).mono ?_; rintro e w2 ⟨rfl, rfl⟩))
            go_ret
            exact ⟨by first | rfl | simp, below_alloc _ _⟩
          | false =>
            rw [h4] at hV
            simp only [Bool.not_false, Bool.and_true] at hV
            have hsu : su = 1 ∨ su = 2 ∨ su = 3 ∨ su = 4 ∨ su = 5 ∨ su = 6 ∨ su = 7 := by
              unfold inB at h0
              simp at h0
              omega
            have hs4 : sale = false ∨ (sale = true ∧ mi = false) := by
              cases sale
              · exact .inl rfl
              · exact .inr ⟨rfl, by simpa using h4⟩
            clear h4
            clear h0
            have HH : Hid (inB 1 1 7 = true ∧ inB 2 1 7 = true ∧ inB 3 1 7 = true ∧ inB 4 1 7 = true ∧ inB 5 1 7 = true ∧ inB 6 1 7 = true ∧ inB 7 1 7 = true) := Lib.hid (by decide)
            rcases hs4 with rfl | ⟨rfl, rfl⟩
            ·
              rcases hsu with rfl | rfl | rfl | rfl | rfl | rfl | rfl
              ·
                have h0 := HH.out.1
                cases h5 : placeB fr with
                | true =>
                  cases h6 : placeB to_ with
                  | true =>
                    cases h7 : noneB pl with
                    | true =>
                      unfold noneB at h7
                      obtain rfl : V = (co == 0) := by rw [← hV]; simp [supB, h5, h6, noneB, h7]
                      go_enter Try.func33, Try.ntmps33
                      go_wp2_with (first
                        | (go_at_call 30; refine (HA.out _ (by assumption) _).mono ?_; rintro e w1 ⟨rfl, rfl⟩)
                        | (go_at_call 29; refine (ref_in _ _ _ _).mono ?_; rintro e w2 ⟨rfl, rfl⟩))
                      go_ret
                      exact ⟨by first | rfl | simp, below_alloc _ _⟩
                    | false =>
                      unfold noneB at h7
                      obtain rfl : V = false := by rw [← hV]; simp [supB, noneB, h7]
                      go_enter Try.func33, Try.ntmps33
                      go_wp2_with (first
                        | (go_at_call 30; refine (HA.out _ (by assumption) _).mono ?_; rintro e w1 ⟨rfl, rfl⟩)
                        | (go_at_call 29; refine (ref_in _ _ _ _).mono ?_; rintro e w2 ⟨rfl, rfl⟩))
                      go_ret
                      exact ⟨by first | rfl | simp, below_alloc _ _⟩
                  | false =>
                    obtain rfl : V = false := by rw [← hV]; simp [supB, h6]
                    go_enter Try.func33, Try.ntmps33
                    go_wp2_with (first
                      | (go_at_call 30; refine (HA.out _ (by assumption) _).mono ?_; rintro e w1 ⟨rfl, rfl⟩)
                      | (go_at_call 29; refine (ref_in _ _ _ _).mono ?_; rintro e w2 ⟨rfl, rfl⟩))
                    go_ret
                    exact ⟨by first | rfl | simp, below_alloc _ _⟩
                | false =>
                  obtain rfl : V = false := by rw [← hV]; simp [supB, h5]
                  go_enter Try.func33, Try.ntmps33
                  go_wp2_with (first
                    | (go_at_call 30; refine (HA.out _ (by assumption) _).mono ?_; rintro e w1 ⟨rfl, rfl⟩)
                    | (go_at_call 29; refine (ref_in _ _ _ _).mono ?_; rintro e w2 ⟨rfl, rfl⟩))
                  go_ret
                  exact ⟨by first | rfl | simp, below_alloc _ _⟩
              ·
                have h0 := HH.out.2.1
                cases h5 : noneB fr with
                | true =>
                  unfold noneB at h5
                  cases h6 : noneB to_ with
                  | true =>
                    unfold noneB at h6
                    by_cases hc0 : ¬ co = 0
                    · have hc : (co == 0) = false := beq_false_of_ne hc0
                      have nc : (co != 0) = true := bne_iff_ne.2 hc0
                      obtain rfl : V = false := by rw [← hV]; simp [supB, hc]
                      go_enter Try.func33, Try.ntmps33
                      go_wp2_with (first
                        | (go_at_call 30; refine (HA.out _ (by assumption) _).mono ?_; rintro e w1 ⟨rfl, rfl⟩)
                        | (go_at_call 29; refine (ref_in _ _ _ _).mono ?_; rintro e w2 ⟨rfl, rfl⟩))
                      go_ret
                      exact ⟨by first | rfl | simp, below_alloc _ _⟩
                    · obtain rfl : co = 0 := Decidable.not_not.1 hc0
                      clear hc0
                      obtain rfl : V = pl.toList.isEmpty := by rw [← hV]; simp [supB, noneB, h5, h6]
                      go_enter Try.func33, Try.ntmps33
                      go_wp2_with (first
                        | (go_at_call 30; refine (HA.out _ (by assumption) _).mono ?_; rintro e w1 ⟨rfl, rfl⟩)
                        | (go_at_call 29; refine (ref_in _ _ _ _).mono ?_; rintro e w2 ⟨rfl, rfl⟩))
                      go_ret
                      exact ⟨by first | rfl | simp, below_alloc _ _⟩
                  | false =>
                    unfold noneB at h6
                    obtain rfl : V = false := by rw [← hV]; simp [supB, noneB, h6]
                    go_enter Try.func33, Try.ntmps33
                    go_wp2_with (first
                      | (go_at_call 30; refine (HA.out _ (by assumption) _).mono ?_; rintro e w1 ⟨rfl, rfl⟩)
                      | (go_at_call 29; refine (ref_in _ _ _ _).mono ?_; rintro e w2 ⟨rfl, rfl⟩))
                    go_ret
                    exact ⟨by first | rfl | simp, below_alloc _ _⟩
                | false =>
                  unfold noneB at h5
                  obtain rfl : V = false := by rw [← hV]; simp [supB, noneB, h5]
                  go_enter Try.func33, Try.ntmps33
                  go_wp2_with (first
                    | (go_at_call 30; refine (HA.out _ (by assumption) _).mono ?_; rintro e w1 ⟨rfl, rfl⟩)
                    | (go_at_call 29; refine (ref_in _ _ _ _).mono ?_; rintro e w2 ⟨rfl, rfl⟩))
                  go_ret
                  exact ⟨by first | rfl | simp, below_alloc _ _⟩
              ·
                have h0 := HH.out.2.2.1
                cases h5 : noneB fr with
                | true =>
                  unfold noneB at h5
                  cases h6 : noneB to_ with
                  | true =>
                    unfold noneB at h6
                    by_cases hc0 : ¬ co = 0
                    · have hc : (co == 0) = false := beq_false_of_ne hc0
                      have nc : (co != 0) = true := bne_iff_ne.2 hc0
                      obtain rfl : V = false := by rw [← hV]; simp [supB, hc]
                      go_enter Try.func33, Try.ntmps33
                      go_wp2_with (first
                        | (go_at_call 30; refine (HA.out _ (by assumption) _).mono ?_; rintro e w1 ⟨rfl, rfl⟩)
                        | (go_at_call 29; refine (ref_in _ _ _ _).mono ?_; rintro e w2 ⟨rfl, rfl⟩))
                      go_ret
                      exact ⟨by first | rfl | simp, below_alloc _ _⟩
                    · obtain rfl : co = 0 := Decidable.not_not.1 hc0
                      clear hc0
                      obtain rfl : V = placeB pl := by rw [← hV]; simp [supB, noneB, h5, h6]
                      go_enter Try.func33, Try.ntmps33
                      go_wp2_with (first
                        | (go_at_call 30; refine (HA.out _ (by assumption) _).mono ?_; rintro e w1 ⟨rfl, rfl⟩)
                        | (go_at_call 29; refine (ref_in _ _ _ _).mono ?_; rintro e w2 ⟨rfl, rfl⟩))
                      go_ret
                      exact ⟨by first | rfl | simp, below_alloc _ _⟩
                  | false =>
                    unfold noneB at h6
                    obtain rfl : V = false := by rw [← hV]; simp [supB, noneB, h6]
                    go_enter Try.func33, Try.ntmps33
                    go_wp2_with (first
                      | (go_at_call 30; refine (HA.out _ (by assumption) _).mono ?_; rintro e w1 ⟨rfl, rfl⟩)
                      | (go_at_call 29; refine (ref_in _ _ _ _).mono ?_; rintro e w2 ⟨rfl, rfl⟩))
                    go_ret
                    exact ⟨by first | rfl | simp, below_alloc _ _⟩
                | false =>
                  unfold noneB at h5
                  obtain rfl : V = false := by rw [← hV]; simp [supB, noneB, h5]
                  go_enter Try.func33, Try.ntmps33
                  go_wp2_with (first
                    | (go_at_call 30; refine (HA.out _ (by assumption) _).mono ?_; rintro e w1 ⟨rfl, rfl⟩)
                    | (go_at_call 29; refine (ref_in _ _ _ _).mono ?_; rintro e w2 ⟨rfl, rfl⟩))
                  go_ret
                  exact ⟨by first | rfl | simp, below_alloc _ _⟩
              ·
                have h0 := HH.out.2.2.2.1
                cases h5 : noneB fr with
                | true =>
                  unfold noneB at h5
                  cases h6 : noneB to_ with
                  | true =>
                    unfold noneB at h6
                    by_cases hc0 : ¬ co = 0
                    · have hc : (co == 0) = false := beq_false_of_ne hc0
                      have nc : (co != 0) = true := bne_iff_ne.2 hc0
                      obtain rfl : V = false := by rw [← hV]; simp [supB, hc]
                      go_enter Try.func33, Try.ntmps33
                      go_wp2_with (first
                        | (go_at_call 30; refine (HA.out _ (by assumption) _).mono ?_; rintro e w1 ⟨rfl, rfl⟩)
                        | (go_at_call 29; refine (ref_in _ _ _ _).mono ?_; rintro e w2 ⟨rfl, rfl⟩))
                      go_ret
                      exact ⟨by first | rfl | simp, below_alloc _ _⟩
                    · obtain rfl : co = 0 := Decidable.not_not.1 hc0
                      clear hc0
                      obtain rfl : V = placeB pl := by rw [← hV]; simp [supB, noneB, h5, h6]
                      go_enter Try.func33, Try.ntmps33
                      go_wp2_with (first
                        | (go_at_call 30; refine (HA.out _ (by assumption) _).mono ?_; rintro e w1 ⟨rfl, rfl⟩)
                        | (go_at_call 29; refine (ref_in _ _ _ _).mono ?_; rintro e w2 ⟨rfl, rfl⟩))
                      go_ret
                      exact ⟨by first | rfl | simp, below_alloc _ _⟩
                  | false =>
                    unfold noneB at h6
                    obtain rfl : V = false := by rw [← hV]; simp [supB, noneB, h6]
                    go_enter Try.func33, Try.ntmps33
                    go_wp2_with (first
                      | (go_at_call 30; refine (HA.out _ (by assumption) _).mono ?_; rintro e w1 ⟨rfl, rfl⟩)
                      | (go_at_call 29; refine (ref_in _ _ _ _).mono ?_; rintro e w2 ⟨rfl, rfl⟩))
                    go_ret
                    exact ⟨by first | rfl | simp, below_alloc _ _⟩
                | false =>
                  unfold noneB at h5
                  obtain rfl : V = false := by rw [← hV]; simp [supB, noneB, h5]
                  go_enter Try.func33, Try.ntmps33
                  go_wp2_with (first
                    | (go_at_call 30; refine (HA.out _ (by assumption) _).mono ?_; rintro e w1 ⟨rfl, rfl⟩)
                    | (go_at_call 29; refine (ref_in _ _ _ _).mono ?_; rintro e w2 ⟨rfl, rfl⟩))
                  go_ret
                  exact ⟨by first | rfl | simp, below_alloc _ _⟩
              ·
                have h0 := HH.out.2.2.2.2.1
                cases h5 : noneB fr with
                | true =>
                  unfold noneB at h5
                  cases h6 : noneB to_ with
                  | true =>
                    unfold noneB at h6
                    by_cases hc0 : ¬ co = 0
                    · have hc : (co == 0) = false := beq_false_of_ne hc0
                      have nc : (co != 0) = true := bne_iff_ne.2 hc0
                      obtain rfl : V = false := by rw [← hV]; simp [supB, hc]
                      go_enter Try.func33, Try.ntmps33
                      go_wp2_with (first
                        | (go_at_call 30; refine (HA.out _ (by assumption) _).mono ?_; rintro e w1 ⟨rfl, rfl⟩)
                        | (go_at_call 29; refine (ref_in _ _ _ _).mono ?_; rintro e w2 ⟨rfl, rfl⟩))
                      go_ret
                      exact ⟨by first | rfl | simp, below_alloc _ _⟩
                    · obtain rfl : co = 0 := Decidable.not_not.1 hc0
                      clear hc0
                      obtain rfl : V = placeB pl := by rw [← hV]; simp [supB, noneB, h5, h6]
                      go_enter Try.func33, Try.ntmps33
                      go_wp2_with (first
                        | (go_at_call 30; refine (HA.out _ (by assumption) _).mono ?_; rintro e w1 ⟨rfl, rfl⟩)
                        | (go_at_call 29; refine (ref_in _ _ _ _).mono ?_; rintro e w2 ⟨rfl, rfl⟩))
                      go_ret
                      exact ⟨by first | rfl | simp, below_alloc _ _⟩
                  | false =>
                    unfold noneB at h6
                    obtain rfl : V = false := by rw [← hV]; simp [supB, noneB, h6]
                    go_enter Try.func33, Try.ntmps33
                    go_wp2_with (first
                      | (go_at_call 30; refine (HA.out _ (by assumption) _).mono ?_; rintro e w1 ⟨rfl, rfl⟩)
                      | (go_at_call 29; refine (ref_in _ _ _ _).mono ?_; rintro e w2 ⟨rfl, rfl⟩))
                    go_ret
                    exact ⟨by first | rfl | simp, below_alloc _ _⟩
                | false =>
                  unfold noneB at h5
                  obtain rfl : V = false := by rw [← hV]; simp [supB, noneB, h5]
                  go_enter Try.func33, Try.ntmps33
                  go_wp2_with (first
                    | (go_at_call 30; refine (HA.out _ (by assumption) _).mono ?_; rintro e w1 ⟨rfl, rfl⟩)
                    | (go_at_call 29; refine (ref_in _ _ _ _).mono ?_; rintro e w2 ⟨rfl, rfl⟩))
                  go_ret
                  exact ⟨by first | rfl | simp, below_alloc _ _⟩
              ·
                have h0 := HH.out.2.2.2.2.2.1
                cases h5 : noneB fr with
                | true =>
                  unfold noneB at h5
                  cases h6 : noneB to_ with
                  | true =>
                    unfold noneB at h6
                    by_cases hc0 : ¬ co = 0
                    · have hc : (co == 0) = false := beq_false_of_ne hc0
                      have nc : (co != 0) = true := bne_iff_ne.2 hc0
                      obtain rfl : V = false := by rw [← hV]; simp [supB, hc]
                      go_enter Try.func33, Try.ntmps33
                      go_wp2_with (first
                        | (go_at_call 30; refine (HA.out _ (by assumption) _).mono ?_; rintro e w1 ⟨rfl, rfl⟩)
                        | (go_at_call 29; refine (ref_in _ _ _ _).mono ?_; rintro e w2 ⟨rfl, rfl⟩))
                      go_ret
                      exact ⟨by first | rfl | simp, below_alloc _ _⟩
                    · obtain rfl : co = 0 := Decidable.not_not.1 hc0
                      clear hc0
                      obtain rfl : V = pl.toList.isEmpty := by rw [← hV]; simp [supB, noneB, h5, h6]
                      go_enter Try.func33, Try.ntmps33
                      go_wp2_with (first
                        | (go_at_call 30; refine (HA.out _ (by assumption) _).mono ?_; rintro e w1 ⟨rfl, rfl⟩)
                        | (go_at_call 29; refine (ref_in _ _ _ _).mono ?_; rintro e w2 ⟨rfl, rfl⟩))
                      go_ret
                      exact ⟨by first | rfl | simp, below_alloc _ _⟩
                  | false =>
                    unfold noneB at h6
                    obtain rfl : V = false := by rw [← hV]; simp [supB, noneB, h6]
                    go_enter Try.func33, Try.ntmps33
                    go_wp2_with (first
                      | (go_at_call 30; refine (HA.out _ (by assumption) _).mono ?_; rintro e w1 ⟨rfl, rfl⟩)
                      | (go_at_call 29; refine (ref_in _ _ _ _).mono ?_; rintro e w2 ⟨rfl, rfl⟩))
                    go_ret
                    exact ⟨by first | rfl | simp, below_alloc _ _⟩
                | false =>
                  unfold noneB at h5
                  obtain rfl : V = false := by rw [← hV]; simp [supB, noneB, h5]
                  go_enter Try.func33, Try.ntmps33
                  go_wp2_with (first
                    | (go_at_call 30; refine (HA.out _ (by assumption) _).mono ?_; rintro e w1 ⟨rfl, rfl⟩)
                    | (go_at_call 29; refine (ref_in _ _ _ _).mono ?_; rintro e w2 ⟨rfl, rfl⟩))
                  go_ret
                  exact ⟨by first | rfl | simp, below_alloc _ _⟩
              ·
                have h0 := HH.out.2.2.2.2.2.2
                cases h5 : placeB fr with
                | true =>
                  cases h6 : placeB to_ with
                  | true =>
                    cases h7 : noneB pl with
                    | true =>
                      unfold noneB at h7
                      cases gr with
                      | true =>
                        obtain rfl : V = true := by rw [← hV]; simp [supB, h5, h6, noneB, h7]
                        go_enter Try.func33, Try.ntmps33
                        go_wp2_with (first
                          | (go_at_call 30; refine (HA.out _ (by assumption) _).mono ?_; rintro e w1 ⟨rfl, rfl⟩)
                          | (go_at_call 29; refine (ref_in _ _ _ _).mono ?_; rintro e w2 ⟨rfl, rfl⟩))
                        go_ret
                        exact ⟨by first | rfl | simp, below_alloc _ _⟩
                      | false =>
                        obtain rfl : V = false := by rw [← hV]; simp [supB, h5, h6, noneB, h7]
                        go_enter Try.func33, Try.ntmps33
                        go_wp2_with (first
                          | (go_at_call 30; refine (HA.out _ (by assumption) _).mono ?_; rintro e w1 ⟨rfl, rfl⟩)
                          | (go_at_call 29; refine (ref_in _ _ _ _).mono ?_; rintro e w2 ⟨rfl, rfl⟩))
                        go_ret
                        exact ⟨by first | rfl | simp, below_alloc _ _⟩
                    | false =>
                      unfold noneB at h7
                      obtain rfl : V = false := by rw [← hV]; simp [supB, noneB, h7]
                      go_enter Try.func33, Try.ntmps33
                      go_wp2_with (first
                        | (go_at_call 30; refine (HA.out _ (by assumption) _).mono ?_; rintro e w1 ⟨rfl, rfl⟩)
                        | (go_at_call 29; refine (ref_in _ _ _ _).mono ?_; rintro e w2 ⟨rfl, rfl⟩))
                      go_ret
                      exact ⟨by first | rfl | simp, below_alloc _ _⟩
                  | false =>
                    obtain rfl : V = false := by rw [← hV]; simp [supB, h6]
                    go_enter Try.func33, Try.ntmps33
                    go_wp2_with (first
                      | (go_at_call 30; refine (HA.out _ (by assumption) _).mono ?_; rintro e w1 ⟨rfl, rfl⟩)
                      | (go_at_call 29; refine (ref_in _ _ _ _).mono ?_; rintro e w2 ⟨rfl, rfl⟩))
                    go_ret
                    exact ⟨by first | rfl | simp, below_alloc _ _⟩
                | false =>
                  obtain rfl : V = false := by rw [← hV]; simp [supB, h5]
                  go_enter Try.func33, Try.ntmps33
                  go_wp2_with (first
                    | (go_at_call 30; refine (HA.out _ (by assumption) _).mono ?_; rintro e w1 ⟨rfl, rfl⟩)
                    | (go_at_call 29; refine (ref_in _ _ _ _).mono ?_; rintro e w2 ⟨rfl, rfl⟩))
                  go_ret
                  exact ⟨by first | rfl | simp, below_alloc _ _⟩
            ·
              rcases hsu with rfl | rfl | rfl | rfl | rfl | rfl | rfl
              ·
                have h0 := HH.out.1
                cases h5 : placeB fr with
                | true =>
                  cases h6 : placeB to_ with
                  | true =>
                    cases h7 : noneB pl with
                    | true =>
                      unfold noneB at h7
                      obtain rfl : V = (co == 0) := by rw [← hV]; simp [supB, h5, h6, noneB, h7]
                      go_enter Try.func33, Try.ntmps33
                      go_wp2_with (first
                        | (go_at_call 30; refine (HA.out _ (by assumption) _).mono ?_; rintro e w1 ⟨rfl, rfl⟩)
                        | (go_at_call 29; refine (ref_in _ _ _ _).mono ?_; rintro e w2 ⟨rfl, rfl⟩))
                      go_ret
                      exact ⟨by first | rfl | simp, below_alloc _ _⟩
                    | false =>
                      unfold noneB at h7
                      obtain rfl : V = false := by rw [← hV]; simp [supB, noneB, h7]
                      go_enter Try.func33, Try.ntmps33
                      go_wp2_with (first
                        | (go_at_call 30; refine (HA.out _ (by assumption) _).mono ?_; rintro e w1 ⟨rfl, rfl⟩)
                        | (go_at_call 29; refine (ref_in _ _ _ _).mono ?_; rintro e w2 ⟨rfl, rfl⟩))
                      go_ret
                      exact ⟨by first | rfl | simp, below_alloc _ _⟩
                  | false =>
                    obtain rfl : V = false := by rw [← hV]; simp [supB, h6]
                    go_enter Try.func33, Try.ntmps33
                    go_wp2_with (first
                      | (go_at_call 30; refine (HA.out _ (by assumption) _).mono ?_; rintro e w1 ⟨rfl, rfl⟩)
                      | (go_at_call 29; refine (ref_in _ _ _ _).mono ?_; rintro e w2 ⟨rfl, rfl⟩))
                    go_ret
                    exact ⟨by first | rfl | simp, below_alloc _ _⟩
                | false =>
                  obtain rfl : V = false := by rw [← hV]; simp [supB, h5]
                  go_enter Try.func33, Try.ntmps33
                  go_wp2_with (first
                    | (go_at_call 30; refine (HA.out _ (by assumption) _).mono ?_; rintro e w1 ⟨rfl, rfl⟩)
                    | (go_at_call 29; refine (ref_in _ _ _ _).mono ?_; rintro e w2 ⟨rfl, rfl⟩))
                  go_ret
                  exact ⟨by first | rfl | simp, below_alloc _ _⟩
              ·
                have h0 := HH.out.2.1
                cases h5 : noneB fr with
                | true =>
                  unfold noneB at h5
                  cases h6 : noneB to_ with
                  | true =>
                    unfold noneB at h6
                    by_cases hc0 : ¬ co = 0
                    · have hc : (co == 0) = false := beq_false_of_ne hc0
                      have nc : (co != 0) = true := bne_iff_ne.2 hc0
                      obtain rfl : V = false := by rw [← hV]; simp [supB, hc]
                      go_enter Try.func33, Try.ntmps33
                      go_wp2_with (first
                        | (go_at_call 30; refine (HA.out _ (by assumption) _).mono ?_; rintro e w1 ⟨rfl, rfl⟩)
                        | (go_at_call 29; refine (ref_in _ _ _ _).mono ?_; rintro e w2 ⟨rfl, rfl⟩))
                      go_ret
                      exact ⟨by first | rfl | simp, below_alloc _ _⟩
                    · obtain rfl : co = 0 := Decidable.not_not.1 hc0
                      clear hc0
                      obtain rfl : V = pl.toList.isEmpty := by rw [← hV]; simp [supB, noneB, h5, h6]
                      go_enter Try.func33, Try.ntmps33
                      go_wp2_with (first
                        | (go_at_call 30; refine (HA.out _ (by assumption) _).mono ?_; rintro e w1 ⟨rfl, rfl⟩)
                        | (go_at_call 29; refine (ref_in _ _ _ _).mono ?_; rintro e w2 ⟨rfl, rfl⟩))
                      go_ret
                      exact ⟨by first | rfl | simp, below_alloc _ _⟩
                  | false =>
                    unfold noneB at h6
                    obtain rfl : V = false := by rw [← hV]; simp [supB, noneB, h6]
                    go_enter Try.func33, Try.ntmps33
                    go_wp2_with (first
                      | (go_at_call 30; refine (HA.out _ (by assumption) _).mono ?_; rintro e w1 ⟨rfl, rfl⟩)
                      | (go_at_call 29; refine (ref_in _ _ _ _).mono ?_; rintro e w2 ⟨rfl, rfl⟩))
                    go_ret
                    exact ⟨by first | rfl | simp, below_alloc _ _⟩
                | false =>
                  unfold noneB at h5
                  obtain rfl : V = false := by rw [← hV]; simp [supB, noneB, h5]
                  go_enter Try.func33, Try.ntmps33
                  go_wp2_with (first
                    | (go_at_call 30; refine (HA.out _ (by assumption) _).mono ?_; rintro e w1 ⟨rfl, rfl⟩)
                    | (go_at_call 29; refine (ref_in _ _ _ _).mono ?_; rintro e w2 ⟨rfl, rfl⟩))
                  go_ret
                  exact ⟨by first | rfl | simp, below_alloc _ _⟩
              ·
                have h0 := HH.out.2.2.1
                cases h5 : noneB fr with
                | true =>
                  unfold noneB at h5
                  cases h6 : noneB to_ with
                  | true =>
                    unfold noneB at h6
                    by_cases hc0 : ¬ co = 0
                    · have hc : (co == 0) = false := beq_false_of_ne hc0
                      have nc : (co != 0) = true := bne_iff_ne.2 hc0
                      obtain rfl : V = false := by rw [← hV]; simp [supB, hc]
                      go_enter Try.func33, Try.ntmps33
                      go_wp2_with (first
                        | (go_at_call 30; refine (HA.out _ (by assumption) _).mono ?_; rintro e w1 ⟨rfl, rfl⟩)
                        | (go_at_call 29; refine (ref_in _ _ _ _).mono ?_; rintro e w2 ⟨rfl, rfl⟩))
                      go_ret
                      exact ⟨by first | rfl | simp, below_alloc _ _⟩
                    · obtain rfl : co = 0 := Decidable.not_not.1 hc0
                      clear hc0
                      obtain rfl : V = placeB pl := by rw [← hV]; simp [supB, noneB, h5, h6]
                      go_enter Try.func33, Try.ntmps33
                      go_wp2_with (first
                        | (go_at_call 30; refine (HA.out _ (by assumption) _).mono ?_; rintro e w1 ⟨rfl, rfl⟩)
                        | (go_at_call 29; refine (ref_in _ _ _ _).mono ?_; rintro e w2 ⟨rfl, rfl⟩))
                      go_ret
                      exact ⟨by first | rfl | simp, below_alloc _ _⟩
                  | false =>
                    unfold noneB at h6
                    obtain rfl : V = false := by rw [← hV]; simp [supB, noneB, h6]
                    go_enter Try.func33, Try.ntmps33
                    go_wp2_with (first
                      | (go_at_call 30; refine (HA.out _ (by assumption) _).mono ?_; rintro e w1 ⟨rfl, rfl⟩)
                      | (go_at_call 29; refine (ref_in _ _ _ _).mono ?_; rintro e w2 ⟨rfl, rfl⟩))
                    go_ret
                    exact ⟨by first | rfl | simp, below_alloc _ _⟩
                | false =>
                  unfold noneB at h5
                  obtain rfl : V = false := by rw [← hV]; simp [supB, noneB, h5]
                  go_enter Try.func33, Try.ntmps33
                  go_wp2_with (first
                    | (go_at_call 30; refine (HA.out _ (by assumption) _).mono ?_; rintro e w1 ⟨rfl, rfl⟩)
                    | (go_at_call 29; refine (ref_in _ _ _ _).mono ?_; rintro e w2 ⟨rfl, rfl⟩))
                  go_ret
                  exact ⟨by first | rfl | simp, below_alloc _ _⟩
              ·
                have h0 := HH.out.2.2.2.1
                cases h5 : noneB fr with
                | true =>
                  unfold noneB at h5
                  cases h6 : noneB to_ with
                  | true =>
                    unfold noneB at h6
                    by_cases hc0 : ¬ co = 0
                    · have hc : (co == 0) = false := beq_false_of_ne hc0
                      have nc : (co != 0) = true := bne_iff_ne.2 hc0
                      obtain rfl : V = false := by rw [← hV]; simp [supB, hc]
                      go_enter Try.func33, Try.ntmps33
                      go_wp2_with (first
                        | (go_at_call 30; refine (HA.out _ (by assumption) _).mono ?_; rintro e w1 ⟨rfl, rfl⟩)
                        | (go_at_call 29; refine (ref_in _ _ _ _).mono ?_; rintro e w2 ⟨rfl, rfl⟩))
                      go_ret
                      exact ⟨by first | rfl | simp, below_alloc _ _⟩
                    · obtain rfl : co = 0 := Decidable.not_not.1 hc0
                      clear hc0
                      obtain rfl : V = placeB pl := by rw [← hV]; simp [supB, noneB, h5, h6]
                      go_enter Try.func33, Try.ntmps33
                      go_wp2_with (first
                        | (go_at_call 30; refine (HA.out _ (by assumption) _).mono ?_; rintro e w1 ⟨rfl, rfl⟩)
                        | (go_at_call 29; refine (ref_in _ _ _ _).mono ?_; rintro e w2 ⟨rfl, rfl⟩))
                      go_ret
                      exact ⟨by first | rfl | simp, below_alloc _ _⟩
                  | false =>
                    unfold noneB at h6
                    obtain rfl : V = false := by rw [← hV]; simp [supB, noneB, h6]
                    go_enter Try.func33, Try.ntmps33
                    go_wp2_with (first
                      | (go_at_call 30; refine (HA.out _ (by assumption) _).mono ?_; rintro e w1 ⟨rfl, rfl⟩)
                      | (go_at_call 29; refine (ref_in _ _ _ _).mono ?_; rintro e w2 ⟨rfl, rfl⟩))
                    go_ret
                    exact ⟨by first | rfl | simp, below_alloc _ _⟩
                | false =>
                  unfold noneB at h5
                  obtain rfl : V = false := by rw [← hV]; simp [supB, noneB, h5]
                  go_enter Try.func33, Try.ntmps33
                  go_wp2_with (first
                    | (go_at_call 30; refine (HA.out _ (by assumption) _).mono ?_; rintro e w1 ⟨rfl, rfl⟩)
                    | (go_at_call 29; refine (ref_in _ _ _ _).mono ?_; rintro e w2 ⟨rfl, rfl⟩))
                  go_ret
                  exact ⟨by first | rfl | simp, below_alloc _ _⟩
              ·
                have h0 := HH.out.2.2.2.2.1
                cases h5 : noneB fr with
                | true =>
                  unfold noneB at h5
                  cases h6 : noneB to_ with
                  | true =>
                    unfold noneB at h6
                    by_cases hc0 : ¬ co = 0
                    · have hc : (co == 0) = false := beq_false_of_ne hc0
                      have nc : (co != 0) = true := bne_iff_ne.2 hc0
                      obtain rfl : V = false := by rw [← hV]; simp [supB, hc]
                      go_enter Try.func33, Try.ntmps33
                      go_wp2_with (first
                        | (go_at_call 30; refine (HA.out _ (by assumption) _).mono ?_; rintro e w1 ⟨rfl, rfl⟩)
                        | (go_at_call 29; refine (ref_in _ _ _ _).mono ?_; rintro e w2 ⟨rfl, rfl⟩))
                      go_ret
                      exact ⟨by first | rfl | simp, below_alloc _ _⟩
                    · obtain rfl : co = 0 := Decidable.not_not.1 hc0
                      clear hc0
                      obtain rfl : V = placeB pl := by rw [← hV]; simp [supB, noneB, h5, h6]
                      go_enter Try.func33, Try.ntmps33
                      go_wp2_with (first
                        | (go_at_call 30; refine (HA.out _ (by assumption) _).mono ?_; rintro e w1 ⟨rfl, rfl⟩)
                        | (go_at_call 29; refine (ref_in _ _ _ _).mono ?_; rintro e w2 ⟨rfl, rfl⟩))
                      go_ret
                      exact ⟨by first | rfl | simp, below_alloc _ _⟩
                  | false =>
                    unfold noneB at h6
                    obtain rfl : V = false := by rw [← hV]; simp [supB, noneB, h6]
                    go_enter Try.func33, Try.ntmps33
                    go_wp2_with (first
                      | (go_at_call 30; refine (HA.out _ (by assumption) _).mono ?_; rintro e w1 ⟨rfl, rfl⟩)
                      | (go_at_call 29; refine (ref_in _ _ _ _).mono ?_; rintro e w2 ⟨rfl, rfl⟩))
                    go_ret
                    exact ⟨by first | rfl | simp, below_alloc _ _⟩
                | false =>
                  unfold noneB at h5
                  obtain rfl : V = false := by rw [← hV]; simp [supB, noneB, h5]
                  go_enter Try.func33, Try.ntmps33
                  go_wp2_with (first
                    | (go_at_call 30; refine (HA.out _ (by assumption) _).mono ?_; rintro e w1 ⟨rfl, rfl⟩)
                    | (go_at_call 29; refine (ref_in _ _ _ _).mono ?_; rintro e w2 ⟨rfl, rfl⟩))
                  go_ret
                  exact ⟨by first | rfl | simp, below_alloc _ _⟩
              ·
                have h0 := HH.out.2.2.2.2.2.1
                cases h5 : noneB fr with
                | true =>
                  unfold noneB at h5
                  cases h6 : noneB to_ with
                  | true =>
                    unfold noneB at h6
                    by_cases hc0 : ¬ co = 0
                    · have hc : (co == 0) = false := beq_false_of_ne hc0
                      have nc : (co != 0) = true := bne_iff_ne.2 hc0
                      obtain rfl : V = false := by rw [← hV]; simp [supB, hc]
                      go_enter Try.func33, Try.ntmps33
                      go_wp2_with (first
                        | (go_at_call 30; refine (HA.out _ (by assumption) _).mono ?_; rintro e w1 ⟨rfl, rfl⟩)
                        | (go_at_call 29; refine (ref_in _ _ _ _).mono ?_; rintro e w2 ⟨rfl, rfl⟩))
                      go_ret
                      exact ⟨by first | rfl | simp, below_alloc _ _⟩
                    · obtain rfl : co = 0 := Decidable.not_not.1 hc0
                      clear hc0
                      obtain rfl : V = pl.toList.isEmpty := by rw [← hV]; simp [supB, noneB, h5, h6]
                      go_enter Try.func33, Try.ntmps33
                      go_wp2_with (first
                        | (go_at_call 30; refine (HA.out _ (by assumption) _).mono ?_; rintro e w1 ⟨rfl, rfl⟩)
                        | (go_at_call 29; refine (ref_in _ _ _ _).mono ?_; rintro e w2 ⟨rfl, rfl⟩))
                      go_ret
                      exact ⟨by first | rfl | simp, below_alloc _ _⟩
                  | false =>
                    unfold noneB at h6
                    obtain rfl : V = false := by rw [← hV]; simp [supB, noneB, h6]
                    go_enter Try.func33, Try.ntmps33
                    go_wp2_with (first
                      | (go_at_call 30; refine (HA.out _ (by assumption) _).mono ?_; rintro e w1 ⟨rfl, rfl⟩)
                      | (go_at_call 29; refine (ref_in _ _ _ _).mono ?_; rintro e w2 ⟨rfl, rfl⟩))
                    go_ret
                    exact ⟨by first | rfl | simp, below_alloc _ _⟩
                | false =>
                  unfold noneB at h5
                  obtain rfl : V = false := by rw [← hV]; simp [supB, noneB, h5]
                  go_enter Try.func33, Try.ntmps33
                  go_wp2_with (first
                    | (go_at_call 30; refine (HA.out _ (by assumption) _).mono ?_; rintro e w1 ⟨rfl, rfl⟩)
                    | (go_at_call 29; refine (ref_in _ _ _ _).mono ?_; rintro e w2 ⟨rfl, rfl⟩))
                  go_ret
                  exact ⟨by first | rfl | simp, below_alloc _ _⟩
              ·
                have h0 := HH.out.2.2.2.2.2.2
                cases h5 : placeB fr with
                | true =>
                  cases h6 : placeB to_ with
                  | true =>
                    cases h7 : noneB pl with
                    | true =>
                      unfold noneB at h7
                      cases gr with
                      | true =>
                        obtain rfl : V = true := by rw [← hV]; simp [supB, h5, h6, noneB, h7]
                        go_enter Try.func33, Try.ntmps33
                        go_wp2_with (first
                          | (go_at_call 30; refine (HA.out _ (by assumption) _).mono ?_; rintro e w1 ⟨rfl, rfl⟩)
                          | (go_at_call 29; refine (ref_in _ _ _ _).mono ?_; rintro e w2 ⟨rfl, rfl⟩))
                        go_ret
                        exact ⟨by first | rfl | simp, below_alloc _ _⟩
                      | false =>
                        obtain rfl : V = false := by rw [← hV]; simp [supB, h5, h6, noneB, h7]
                        go_enter Try.func33, Try.ntmps33
                        go_wp2_with (first
                          | (go_at_call 30; refine (HA.out _ (by assumption) _).mono ?_; rintro e w1 ⟨rfl, rfl⟩)
                          | (go_at_call 29; refine (ref_in _ _ _ _).mono ?_; rintro e w2 ⟨rfl, rfl⟩))
                        go_ret
                        exact ⟨by first | rfl | simp, below_alloc _ _⟩
                    | false =>
                      unfold noneB at h7
                      obtain rfl : V = false := by rw [← hV]; simp [supB, noneB, h7]
                      go_enter Try.func33, Try.ntmps33
                      go_wp2_with (first
                        | (go_at_call 30; refine (HA.out _ (by assumption) _).mono ?_; rintro e w1 ⟨rfl, rfl⟩)
                        | (go_at_call 29; refine (ref_in _ _ _ _).mono ?_; rintro e w2 ⟨rfl, rfl⟩))
                      go_ret
                      exact ⟨by first | rfl | simp, below_alloc _ _⟩
                  | false =>
                    obtain rfl : V = false := by rw [← hV]; simp [supB, h6]
                    go_enter Try.func33, Try.ntmps33
                    go_wp2_with (first
                      | (go_at_call 30; refine (HA.out _ (by assumption) _).mono ?_; rintro e w1 ⟨rfl, rfl⟩)
                      | (go_at_call 29; refine (ref_in _ _ _ _).mono ?_; rintro e w2 ⟨rfl, rfl⟩))
                    go_ret
                    exact ⟨by first | rfl | simp, below_alloc _ _⟩
                | false =>
                  obtain rfl : V = false := by rw [← hV]; simp [supB, h5]
                  go_enter Try.func33, Try.ntmps33
                  go_wp2_with (first
                    | (go_at_call 30; refine (HA.out _ (by assumption) _).mono ?_; rintro e w1 ⟨rfl, rfl⟩)
                    | (go_at_call 29; refine (ref_in _ _ _ _).mono ?_; rintro e w2 ⟨rfl, rfl⟩))
                  go_ret
                  exact ⟨by first | rfl | simp, below_alloc _ _⟩
end Go.Proofs.Ytjanhgekocpobaa
