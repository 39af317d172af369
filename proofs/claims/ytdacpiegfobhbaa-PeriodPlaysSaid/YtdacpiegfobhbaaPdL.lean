/- The chapter's example lives. -/
import Derived.Test.YtdacpiegfobhbaaPdH
namespace Go.Proofs.Ytdacpiegfobhbaa
open Go.RowKit
set_option maxRecDepth 100000
set_option linter.unusedSimpArgs false
set_option linter.unusedVariables false

theorem ex_of : ∀ w, Calls Try.prog 28 #[.int .i64 19000, .int .i64 1] w fun e w' => e = .returned (.tuple #[.agg #[.int .i64 1, .int .i64 (Civ.perY 1 624), .int .i64 (Civ.perI 1 624)], .int .i64 0]) ∧ Below w.heap.size w w' := fun w => by
  have h := code_of_ok 2022 1 8 1 w (by unfold Civ.valid; decide +kernel) (by decide)
  have e : Civ.number 2022 1 8 = 19000 := by decide +kernel
  rw [e] at h
  exact h
def exC : Ck := ⟨1, 624, 624, 624⟩
def exD : Ck := ⟨1, 624, 625, 624⟩
theorem exC_ok : exC.Ok := Ck.new_ok (.inl rfl) (by decide) (by decide)
theorem exD_ok : exD.Ok := ⟨.inl rfl, by decide, by decide, by decide, by decide, by decide⟩
theorem lives27_any (w : World) : Calls Try.prog 7 #[] w fun e w' => e = .returned (.bool true) ∧ Below w.heap.size w w' := by
  have HN := Lib.hid (fun w => new_ok 1 19000 624 w (.inl rfl) (by decide) (by decide) ex_of)
  have HCl : Hid (∀ w P, CkAt w P exC → Calls Try.prog 12 #[.pointer (some ⟨P, 0, none⟩), .agg #[.int .i64 1, .int .i64 2022, .int .i64 1]] w (StepP w P exD 0)) := Lib.hid (fun w P h => by
    have := code_close w P exC 1 2022 1 h exC_ok
    have e : exC.clE 1 2022 1 = 0 := by decide +kernel
    have e2 : exC.cl 1 2022 1 = exD := by unfold Ck.cl; rw [if_pos e]; rfl
    rw [e, e2] at this
    exact this)
  have HR : Hid (∀ w P, CkAt w P exD → Calls Try.prog 17 #[.pointer (some ⟨P, 0, none⟩), .int .i64 19000] w fun e w' => e = .returned (.tuple #[.agg #[.int .i64 1, .int .i64 2022, .int .i64 2], .agg #[.int .i64 1, .int .i64 2022, .int .i64 1], .int .i64 0]) ∧ Below w.heap.size w w') := Lib.hid (fun w P h => by
    have := code_route_in w P exD 19000 624 h exD_ok (by decide) (by decide) ex_of
    have e : exD.rtE 624 = 0 := by decide +kernel
    have e1 : exD.rtP 624 = .agg #[.int .i64 1, .int .i64 2022, .int .i64 2] := by unfold Ck.rtP; rw [if_pos e, if_neg (by decide)]; unfold perV; rw [show Civ.perK exD.k exD.A = 1 by decide +kernel, show Civ.perY exD.k exD.A = 2022 by decide +kernel, show Civ.perI exD.k exD.A = 2 by decide +kernel]
    have e2 : exD.rtO 624 = .agg #[.int .i64 1, .int .i64 2022, .int .i64 1] := by unfold Ck.rtO; rw [if_pos e]; unfold perV; rw [show Civ.perK exD.k 624 = 1 by decide +kernel, show Civ.perY exD.k 624 = 2022 by decide +kernel, show Civ.perI exD.k 624 = 1 by decide +kernel]
    rw [e, e1, e2] at this
    exact this)
  have HS : Hid (∀ w P, CkAt w P exD → Calls Try.prog 19 #[.pointer (some ⟨P, 0, none⟩), .agg #[.int .i64 1, .int .i64 2022, .int .i64 1]] w fun e w' => e = .returned (.int .i64 2) ∧ Below w.heap.size w w') := Lib.hid (fun w P h => by
    have := code_state w P exD 1 2022 1 h exD_ok
    rw [show exD.st 1 2022 1 = 2 by decide +kernel] at this
    exact this)
  go_enter Try.func7, Try.ntmps7
  go_wp2_with (go_at_call 8; refine (HN.out _).mono ?_; rintro e w1 ⟨P, rfl, hP, hc, hb⟩; have HC1 : Hid (CkAt w1 P exC) := Lib.hid hc; have HB1 := Lib.hid hb; have HP := Lib.hid hP; clear hP hc hb; refine Stop.out ?_)
  unfold Stop
  go_wp2_with (go_at_call 12; refine (HCl.out _ _ HC1.out).mono ?_; rintro e w2 ⟨rfl, hc, hd⟩; have HC2 := Lib.hid hc; have HB2 := Lib.hid (HB1.out.trans (hd.below HB1.out.size HP.out)); clear hc hd; refine Stop.out ?_)
  unfold Stop
  go_wp2_with (go_at_call 17; refine (HR.out _ _ HC2.out).mono ?_; rintro e w3 ⟨rfl, hb⟩; have HC3 := Lib.hid (HC2.out.on hb); have HB3 := Lib.hid (below_any HB2.out (Nat.le_refl _) hb); clear hb; refine Stop.out ?_)
  unfold Stop
  go_wp2_with (go_at_call 19; refine (HS.out _ _ ((HC3.out.on (below_alloc _ _)).on (below_alloc _ _))).mono ?_; rintro e w4 ⟨rfl, hb⟩; have HB4 := Lib.hid (below_any HB3.out (Nat.le_refl _) (below_then (below_alloc _ _) (below_then (below_alloc _ _) hb))); clear hb)
  go_ret
  exact ⟨rfl, HB4.out⟩
end Go.Proofs.Ytdacpiegfobhbaa
