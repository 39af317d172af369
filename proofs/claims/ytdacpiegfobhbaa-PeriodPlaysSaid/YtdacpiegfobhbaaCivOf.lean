/- What the document's own answers say of the period that has a day. -/
import Derived.Test.YtdacpiegfobhbaaCivTwo
namespace Go.Proofs.Ytdacpiegfobhbaa
open Go.RowKit
set_option maxRecDepth 100000

theorem below_res0 {k y i : Value} {t : TypeId} {w : World} : Below w.heap.size w (w.alloc (.cells #[k, y, i] t)) := (Below.refl _ _).alloc (Nat.le_refl _) _

set_option maxHeartbeats 400000 in
theorem ref_of_no (n k : Int) (w : World) (h : n < 0 ∨ 2932896 < n) :
    Calls Try.prog 29 #[.int .i64 n, .int .i64 k] w fun e w' => e = .returned (.tuple #[.agg #[.int .i64 0, .int .i64 0, .int .i64 0], .int .i64 30]) ∧ Below w.heap.size w w' := by
  have H := Lib.hid h
  clear h
  go_enter Try.func29, Try.ntmps29
  go_wp2_with (go_at_call 45; refine (ref_date_no _ _ H.out).mono ?_; rintro e w' ⟨rfl, rfl⟩)
  exact bodyPost_ret (v := .tuple #[.agg #[.int .i64 0, .int .i64 0, .int .i64 0], .int .i64 30]) (by simp [results, Try.results29, go_sem]) rfl ⟨rfl, below_res0⟩

set_option maxHeartbeats 400000 in
theorem ref_of_kind (n k : Int) (w : World) (h1 : 0 ≤ n) (h2 : n ≤ 2932896) (hk : Civ.many k = 0) :
    Calls Try.prog 29 #[.int .i64 n, .int .i64 k] w fun e w' => e = .returned (.tuple #[.agg #[.int .i64 0, .int .i64 0, .int .i64 0], .int .i64 2]) ∧ Below w.heap.size w w' := by
  have H := Lib.hid hk
  clear hk
  go_enter Try.func29, Try.ntmps29
  go_wp2_with (first | (go_at_call 45; refine (ref_date_ok _ _ (by omega) (by omega)).mono ?_; rintro e w' ⟨⟨y, m, d, hv, rfl⟩, rfl⟩) | (go_at_call 31; refine (ref_many_at H.out _).mono ?_; rintro e w' ⟨rfl, rfl⟩))
  exact bodyPost_ret (v := .tuple #[.agg #[.int .i64 0, .int .i64 0, .int .i64 0], .int .i64 2]) (by simp [results, Try.results29, go_sem]) rfl ⟨rfl, below_res0⟩

/-- what the call for the period of a day gives -/
def OfIs (n k : Int) (e : Ending) : Prop := ∃ y m d : Int, (Civ.valid y m d ∧ Civ.number y m d = n) ∧ e = .returned (.tuple #[.agg #[.int .i64 k, .int .i64 y, .int .i64 ((m - 1) / Civ.each k + 1)], .int .i64 0])

set_option maxHeartbeats 400000 in
theorem ref_of_ok (n k : Int) (w : World) (h1 : 0 ≤ n) (h2 : n ≤ 2932896) (hk : ¬ Civ.many k = 0) :
    Calls Try.prog 29 #[.int .i64 n, .int .i64 k] w fun e w' => OfIs n k e ∧ Below w.heap.size w w' := by
  have hk3 : k = 1 ∧ Civ.many k = 12 ∨ k = 2 ∧ Civ.many k = 4 ∨ k = 3 ∧ Civ.many k = 1 := by
    unfold Civ.many at hk ⊢
    by_cases a : k = 1
    · exact .inl ⟨a, by rw [if_pos a]⟩
    · by_cases b : k = 2
      · exact .inr (.inl ⟨b, by rw [if_neg a, if_pos b]⟩)
      · by_cases c : k = 3
        · exact .inr (.inr ⟨c, by rw [if_neg a, if_neg b, if_pos c]⟩)
        · rw [if_neg a, if_neg b, if_neg c] at hk; omega
  clear hk
  rcases hk3 with ⟨rfl, hm⟩ | ⟨rfl, hm⟩ | ⟨rfl, hm⟩
  · have H := Lib.hid hm
    clear hm
    go_enter Try.func29, Try.ntmps29
    go_wp2_with (first | (go_at_call 45; refine (ref_date_ok _ _ (by omega) (by omega)).mono ?_; rintro e w' ⟨⟨y, m, d, hv, rfl⟩, rfl⟩; obtain ⟨hb1, hb2, hb3, hb4⟩ := Civ.valid_bd hv.1; have HV := Lib.hid hv; clear hv) | (go_at_call 31; refine (ref_many_at H.out _).mono ?_; rintro e w' ⟨rfl, rfl⟩))
    exact bodyPost_ret (v := .tuple #[.agg #[.int .i64 1, .int .i64 y, .int .i64 m], .int .i64 0]) (by simp [results, Try.results29, go_sem]) rfl ⟨⟨y, m, d, HV.out, by simp [Civ.each]⟩, below_res0⟩
  · have H := Lib.hid hm
    clear hm
    go_enter Try.func29, Try.ntmps29
    go_wp2_with (first | (go_at_call 45; refine (ref_date_ok _ _ (by omega) (by omega)).mono ?_; rintro e w' ⟨⟨y, m, d, hv, rfl⟩, rfl⟩; obtain ⟨hb1, hb2, hb3, hb4⟩ := Civ.valid_bd hv.1; have HV := Lib.hid hv; clear hv) | (go_at_call 31; refine (ref_many_at H.out _).mono ?_; rintro e w' ⟨rfl, rfl⟩))
    exact bodyPost_ret (v := .tuple #[.agg #[.int .i64 2, .int .i64 y, .int .i64 ((m - 1) / 3 + 1)], .int .i64 0]) (by simp [results, Try.results29, go_sem]) rfl ⟨⟨y, m, d, HV.out, by simp [Civ.each]⟩, below_res0⟩
  · have H := Lib.hid hm
    clear hm
    go_enter Try.func29, Try.ntmps29
    go_wp2_with (first | (go_at_call 45; refine (ref_date_ok _ _ (by omega) (by omega)).mono ?_; rintro e w' ⟨⟨y, m, d, hv, rfl⟩, rfl⟩; obtain ⟨hb1, hb2, hb3, hb4⟩ := Civ.valid_bd hv.1; have HV := Lib.hid hv; clear hv) | (go_at_call 31; refine (ref_many_at H.out _).mono ?_; rintro e w' ⟨rfl, rfl⟩))
    exact bodyPost_ret (v := .tuple #[.agg #[.int .i64 3, .int .i64 y, .int .i64 ((m - 1) / 12 + 1)], .int .i64 0]) (by simp [results, Try.results29, go_sem]) rfl ⟨⟨y, m, d, HV.out, by simp [Civ.each]⟩, below_res0⟩
end Go.Proofs.Ytdacpiegfobhbaa
