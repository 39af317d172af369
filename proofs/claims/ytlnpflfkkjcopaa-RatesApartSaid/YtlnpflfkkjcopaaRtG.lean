/- Rates: what is told, and what is not. -/
import Derived.Test.YtlnpflfkkjcopaaRtF
namespace Go.Proofs.Ytlnpflfkkjcopaa
open Go.RowKit
set_option maxRecDepth 100000

theorem rof_not (p : Value) (s : ByteArray) (c d : Int) (w : World) (hmade : Calls Try.prog 44 #[p] w fun e w' => e = .returned (.bool false) ∧ w = w') :
    Calls Try.prog 29 #[p, .string s, .int .i64 c, .int .i64 d] w fun e w' => e = .returned (.tuple #[.int .i64 0, .int .i64 1]) ∧ w = w' := by
  have HMade := Lib.hid hmade
  clear hmade
  go_enter Try.func29, Try.ntmps29
  go_wp2_with (go_at_call 44; refine HMade.out.mono ?_; rintro e w1 ⟨rfl, rfl⟩)
  go_ret2
  exact ⟨rfl, rfl⟩
/-- what is told of a state and a category on a day -/
def ofX (F : Lns) (s : ByteArray) (c d : Int) : Int := if (isMem s && ratB c) = true then ratX (Ln F s c) d else 0
def ofE (F : Lns) (s : ByteArray) (c d : Int) : Int := if isMem s = true then (if ratB c = true then ratE (Ln F s c) d else if c = 4 ∨ c = 5 then 0 else 2) else 40
theorem ratB_iff {c : Int} : ratB c = true ↔ 1 ≤ c ∧ c ≤ 3 := by
  unfold ratB
  rw [Bool.and_eq_true, decide_eq_true_iff, decide_eq_true_iff]
theorem mem_ok {s : ByteArray} {c : Int} (h : isMem s = true) (hc : ratB c = true) : okKey s c := ⟨by rw [mem_two h]; omega, ratB_iff.1 hc⟩
theorem beq_no {a b : Int} (h : ¬ a = b) : (a == b) = false := beq_false_of_ne h
set_option maxHeartbeats 400000 in
theorem code_of {w : World} {base R bm n : Nat} {F : Lns} (h : RtAt w base R bm n F) (s : ByteArray) (c d : Int) (hs : s.size ≤ 9223372036854775807) (hM : MaxL w) :
    Calls Try.prog 29 #[.pointer (some ⟨R, 0, none⟩), .string s, .int .i64 c, .int .i64 d] w fun e w' => e = .returned (.tuple #[.int .i64 (ofX F s c d), .int .i64 (ofE F s c d)]) ∧ Below w.heap.size w w' := by
  have HMade := Lib.hid (code_rmade h)
  have HMem := Lib.hid (code_member s w hs hM)
  have HR := Lib.hid (code_isRated c w)
  cases hm : isMem s with
  | false =>
    rw [hm] at HMem
    rw [show ofX F s c d = 0 by unfold ofX; rw [hm]; rfl, show ofE F s c d = 40 by unfold ofE; rw [hm]; rfl]
    clear h hM
    go_enter Try.func29, Try.ntmps29
    go_wp2_with (first | (go_at_call 44; refine HMade.out.mono ?_; rintro e w1 ⟨rfl, rfl⟩) | (go_at_call 45; refine HMem.out.mono ?_; rintro e w1 ⟨rfl, rfl⟩))
    go_ret2
    exact ⟨rfl, Below.refl _ _⟩
  | true =>
    rw [hm] at HMem
    cases hr : ratB c with
    | true =>
      rw [hr] at HR
      rw [show ofX F s c d = ratX (Ln F s c) d by unfold ofX; rw [hm, hr]; rfl, show ofE F s c d = ratE (Ln F s c) d by unfold ofE; rw [hm, hr]; rfl]
      have HA := Lib.hid (code_rat h (mem_ok hm hr) d)
      clear h hM
      go_enter Try.func29, Try.ntmps29
      go_wp2_with (first | (go_at_call 44; refine HMade.out.mono ?_; rintro e w1 ⟨rfl, rfl⟩) | (go_at_call 45; refine HMem.out.mono ?_; rintro e w1 ⟨rfl, rfl⟩) | (go_at_call 46; refine HR.out.mono ?_; rintro e w1 ⟨rfl, rfl⟩) | (go_at_call 51; refine HA.out.mono ?_; rintro e w1 ⟨rfl, hb⟩))
      go_ret2
      exact ⟨rfl, hb⟩
    | false =>
      rw [hr] at HR
      have hx : ofX F s c d = 0 := by unfold ofX; rw [hm, hr]; rfl
      have he : ofE F s c d = if c = 4 ∨ c = 5 then 0 else 2 := by unfold ofE; rw [hm, hr]; rfl
      rw [hx, he]
      clear h hM hx he
      by_cases h4 : c = 4
      · rw [if_pos (.inl h4)]
        subst h4
        go_enter Try.func29, Try.ntmps29
        go_wp2_with (first | (go_at_call 44; refine HMade.out.mono ?_; rintro e w1 ⟨rfl, rfl⟩) | (go_at_call 45; refine HMem.out.mono ?_; rintro e w1 ⟨rfl, rfl⟩) | (go_at_call 46; refine HR.out.mono ?_; rintro e w1 ⟨rfl, rfl⟩))
        go_ret2
        exact ⟨rfl, Below.refl _ _⟩
      · by_cases h5 : c = 5
        · rw [if_pos (.inr h5)]
          subst h5
          go_enter Try.func29, Try.ntmps29
          go_wp2_with (first | (go_at_call 44; refine HMade.out.mono ?_; rintro e w1 ⟨rfl, rfl⟩) | (go_at_call 45; refine HMem.out.mono ?_; rintro e w1 ⟨rfl, rfl⟩) | (go_at_call 46; refine HR.out.mono ?_; rintro e w1 ⟨rfl, rfl⟩))
          go_ret2
          exact ⟨rfl, Below.refl _ _⟩
        · rw [if_neg (by omega)]
          have b4 := beq_no h4
          have b5 := beq_no h5
          clear h4 h5
          go_enter Try.func29, Try.ntmps29
          go_wp2_with (first | (go_at_call 44; refine HMade.out.mono ?_; rintro e w1 ⟨rfl, rfl⟩) | (go_at_call 45; refine HMem.out.mono ?_; rintro e w1 ⟨rfl, rfl⟩) | (go_at_call 46; refine HR.out.mono ?_; rintro e w1 ⟨rfl, rfl⟩))
          go_ret2
          exact ⟨rfl, Below.refl _ _⟩

/-! ### what can't be set -/
theorem rset_not (p : Value) (s : ByteArray) (c f u x : Int) (w : World) (hmade : ∀ W, Below w.heap.size w W → Calls Try.prog 44 #[p] W fun e w' => e = .returned (.bool false) ∧ W = w') :
    Calls Try.prog 26 #[p, .string s, .int .i64 c, .agg #[.int .i64 f, .int .i64 u], .int .i64 x] w fun e w' => e = .returned (.int .i64 1) ∧ Below w.heap.size w w' := by
  have HB := Lib.hid (fun o => below_alloc w o)
  have HMade : Hid (∀ o, Calls Try.prog 44 #[p] (w.alloc o) fun e w' => e = .returned (.bool false) ∧ w.alloc o = w') := Lib.hid (fun o => hmade _ (below_alloc w o))
  clear hmade
  go_enter Try.func26, Try.ntmps26
  go_wp2_with (go_at_call 44; refine (HMade.out _).mono ?_; rintro e w1 ⟨rfl, rfl⟩)
  go_ret
  exact ⟨rfl, HB.out _⟩
theorem rset_name {w : World} {base R bm n : Nat} {F : Lns} (h : RtAt w base R bm n F) (s : ByteArray) (c f u x : Int) (hs : s.size ≤ 9223372036854775807) (hM : MaxL w) (hm : isMem s = false) :
    Calls Try.prog 26 #[.pointer (some ⟨R, 0, none⟩), .string s, .int .i64 c, .agg #[.int .i64 f, .int .i64 u], .int .i64 x] w fun e w' => e = .returned (.int .i64 40) ∧ Below w.heap.size w w' := by
  have HB := Lib.hid (fun o => below_alloc w o)
  have HMade := Lib.hid (fun o => code_rmade (h.on (below_alloc w o)))
  have HMem := Lib.hid (fun o => code_member s (w.alloc o) hs (hM.below (below_alloc w o) (Nat.le_refl _)))
  rw [hm] at HMem
  clear h hM
  go_enter Try.func26, Try.ntmps26
  go_wp2_with (first | (go_at_call 44; refine (HMade.out _).mono ?_; rintro e w1 ⟨rfl, rfl⟩) | (go_at_call 45; refine (HMem.out _).mono ?_; rintro e w1 ⟨rfl, rfl⟩))
  go_ret
  exact ⟨rfl, HB.out _⟩
set_option maxHeartbeats 400000 in
theorem rset_arg {w : World} {base R bm n : Nat} {F : Lns} (h : RtAt w base R bm n F) (s : ByteArray) (c f u x : Int) (hs : s.size ≤ 9223372036854775807) (hM : MaxL w) (hm : isMem s = true) (hr : ratB c = false ∨ (ratB c = true ∧ (x < 0 ∨ (0 ≤ x ∧ 10000 < x)))) :
    Calls Try.prog 26 #[.pointer (some ⟨R, 0, none⟩), .string s, .int .i64 c, .agg #[.int .i64 f, .int .i64 u], .int .i64 x] w fun e w' => e = .returned (.int .i64 2) ∧ Below w.heap.size w w' := by
  have HB := Lib.hid (fun o => below_alloc w o)
  have HMade := Lib.hid (fun o => code_rmade (h.on (below_alloc w o)))
  have HMem := Lib.hid (fun o => code_member s (w.alloc o) hs (hM.below (below_alloc w o) (Nat.le_refl _)))
  have HR := Lib.hid (fun o => code_isRated c (w.alloc o))
  rw [hm] at HMem
  clear h hM
  rcases hr with hr | ⟨hr, hx | ⟨hx, hx2⟩⟩
  all_goals
    rw [hr] at HR
    go_enter Try.func26, Try.ntmps26
    go_wp2_with (first | (go_at_call 44; refine (HMade.out _).mono ?_; rintro e w1 ⟨rfl, rfl⟩) | (go_at_call 45; refine (HMem.out _).mono ?_; rintro e w1 ⟨rfl, rfl⟩) | (go_at_call 46; refine (HR.out _).mono ?_; rintro e w1 ⟨rfl, rfl⟩))
    go_ret
    exact ⟨rfl, HB.out _⟩
end Go.Proofs.Ytlnpflfkkjcopaa
