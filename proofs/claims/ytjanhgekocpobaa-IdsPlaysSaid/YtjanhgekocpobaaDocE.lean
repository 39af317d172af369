/- Lines that may be: both sides. -/
import Derived.Test.YtjanhgekocpobaaDocD
namespace Go.Proofs.Ytjanhgekocpobaa
open Go.RowKit
set_option maxRecDepth 100000
set_option linter.unusedSimpArgs false

set_option maxHeartbeats 4000000 in
theorem code_goodLine (su ca : Int) (fr to_ pl : ByteArray) (am : Int) (gr : Bool) (co : Int) (mi : Bool) (sale : Bool) (w : World) (hf : fr.size ≤ 140737488351232) (ht : to_.size ≤ 140737488351232) (hp : pl.size ≤ 140737488351232) (V : Bool) (hV : (supB su fr to_ pl gr co && inB ca 1 5 && inB am 0 1099511627776 && inB co 0 1099511627776 && !(sale && mi)) = V) :
    Calls Try.prog 41 #[.agg #[.int .i64 su, .int .i64 ca, .string fr, .string to_, .string pl, .int .i64 am, .bool gr, .int .i64 co, .bool mi], .bool sale] w fun e w' => e = .returned (.bool V) ∧ Below w.heap.size w w' := by
  have HS := Lib.hid (fun W => code_isSupplied su ca fr to_ pl am gr co mi W hf ht hp _ rfl)
  have HX := Lib.hid (And.intro (heap_alloc_new w (.cells #[.int .i64 su, .int .i64 ca, .string fr, .string to_, .string pl, .int .i64 am, .bool gr, .int .i64 co, .bool mi] 60)) (below_alloc w (.cells #[.int .i64 su, .int .i64 ca, .string fr, .string to_, .string pl, .int .i64 am, .bool gr, .int .i64 co, .bool mi] 60)))
  clear hf ht hp
  generalize supB su fr to_ pl gr co = b0 at HS hV
  cases b0 with
  | false =>
    simp only [Bool.false_and, Bool.true_and, Bool.and_false, Bool.and_true] at hV
    subst hV
    go_enter Try.func41, Try.ntmps41
    go_wp2_with (first
      | (go_at_call 58; refine (HS.out _).mono ?_; rintro e w1 ⟨rfl, hb⟩; obtain ⟨x0, x1, x2, x3, x4, x5, x6, x7, x8⟩ := cellsLineV (heap_on hb HX.out.1); have HB := Lib.hid (below_then HX.out.2 hb); clear hb)
      | (go_at_call 34; refine (code_isFrom _ _ _ _).mono ?_; rintro e w2 ⟨rfl, rfl⟩))
    go_ret
    exact ⟨by first | rfl | simp, HB.out⟩
  | true =>
    cases h1 : inB ca 1 5 with
    | false =>
      rw [h1] at hV
      simp only [Bool.false_and, Bool.true_and, Bool.and_false, Bool.and_true] at hV
      subst hV
      go_enter Try.func41, Try.ntmps41
      go_wp2_with (first
        | (go_at_call 58; refine (HS.out _).mono ?_; rintro e w1 ⟨rfl, hb⟩; obtain ⟨x0, x1, x2, x3, x4, x5, x6, x7, x8⟩ := cellsLineV (heap_on hb HX.out.1); have HB := Lib.hid (below_then HX.out.2 hb); clear hb)
        | (go_at_call 34; refine (code_isFrom _ _ _ _).mono ?_; rintro e w2 ⟨rfl, rfl⟩))
      go_ret
      exact ⟨by first | rfl | simp, HB.out⟩
    | true =>
      rw [h1] at hV
      cases h2 : inB am 0 1099511627776 with
      | false =>
        rw [h2] at hV
        simp only [Bool.false_and, Bool.true_and, Bool.and_false, Bool.and_true] at hV
        subst hV
        go_enter Try.func41, Try.ntmps41
        go_wp2_with (first
          | (go_at_call 58; refine (HS.out _).mono ?_; rintro e w1 ⟨rfl, hb⟩; obtain ⟨x0, x1, x2, x3, x4, x5, x6, x7, x8⟩ := cellsLineV (heap_on hb HX.out.1); have HB := Lib.hid (below_then HX.out.2 hb); clear hb)
          | (go_at_call 34; refine (code_isFrom _ _ _ _).mono ?_; rintro e w2 ⟨rfl, rfl⟩))
        go_ret
        exact ⟨by first | rfl | simp, HB.out⟩
      | true =>
        rw [h2] at hV
        cases h3 : inB co 0 1099511627776 with
        | false =>
          rw [h3] at hV
          simp only [Bool.false_and, Bool.true_and, Bool.and_false, Bool.and_true] at hV
          subst hV
          go_enter Try.func41, Try.ntmps41
          go_wp2_with (first
            | (go_at_call 58; refine (HS.out _).mono ?_; rintro e w1 ⟨rfl, hb⟩; obtain ⟨x0, x1, x2, x3, x4, x5, x6, x7, x8⟩ := cellsLineV (heap_on hb HX.out.1); have HB := Lib.hid (below_then HX.out.2 hb); clear hb)
            | (go_at_call 34; refine (code_isFrom _ _ _ _).mono ?_; rintro e w2 ⟨rfl, rfl⟩))
          go_ret
          exact ⟨by first | rfl | simp, HB.out⟩
        | true =>
          rw [h3] at hV
          simp only [Bool.false_and, Bool.true_and, Bool.and_false, Bool.and_true] at hV
          cases sale
          all_goals
            simp only [Bool.false_and, Bool.true_and, Bool.not_false] at hV
            subst hV
            go_enter Try.func41, Try.ntmps41
            go_wp2_with (first
              | (go_at_call 58; refine (HS.out _).mono ?_; rintro e w1 ⟨rfl, hb⟩; obtain ⟨x0, x1, x2, x3, x4, x5, x6, x7, x8⟩ := cellsLineV (heap_on hb HX.out.1); have HB := Lib.hid (below_then HX.out.2 hb); clear hb)
              | (go_at_call 34; refine (code_isFrom _ _ _ _).mono ?_; rintro e w2 ⟨rfl, rfl⟩))
            go_ret
            exact ⟨by first | rfl | simp, HB.out⟩
end Go.Proofs.Ytjanhgekocpobaa
