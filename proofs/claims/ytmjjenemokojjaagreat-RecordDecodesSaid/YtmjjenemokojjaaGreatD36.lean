/- Right periods, as the document tells them (the civil texts' own, for a program that holds no more of civil). -/
import Derived.Test.YtmjjenemokojjaaGreatD9
import Derived.BigQuiet
import Derived.Deep.QuietTactic
namespace Go.Proofs.YtmjjenemokojjaaGreat.Civs
open Go.RowKit
set_option maxRecDepth 100000
set_option maxHeartbeats 400000 in
theorem ref_many (k : Int) (w : World) :
 Calls Tryz.prog 53 #[.int .i64 k] w fun e w' => e = .returned (.int .i64 (Civ.many k)) ∧ w = w' := by
 go_enter Tryz.func53, Tryz.ntmps53
 go_wp2
 all_goals go_ret
 all_goals exact ⟨ret_int (by simp_all [Civ.many]), rfl⟩

theorem ref_many_q (k : Int) (w : World) (n : Nat) :
 Calls Tryz.prog 53 #[.int .i64 k] (w.drewN n) fun e w' => e = .returned (.int .i64 (Civ.many k)) ∧ ∃ m, w' = w.drewN m :=
 (ref_many k _).mono fun _ _ ⟨he, hw⟩ => ⟨he, n, hw.symm⟩

set_option maxHeartbeats 400000 in
theorem ref_good (k y i : Int) (w : World) :
 Calls Tryz.prog 25 #[.agg #[.int .i64 k, .int .i64 y, .int .i64 i]] w fun e w' => e = .returned (.bool (Civ.good k y i)) ∧ Below w.heap.size w w' := by
 by_cases h1 : 1970 ≤ y
 · by_cases h2 : y ≤ 9999
   · by_cases h3 : 1 ≤ i
     · go_enter Tryz.func25, Tryz.ntmps25
       go_wp2
       go_quiet ((go_at_call 53; exact ref_many_q _ _ _))
       go_wp2
       go_ret
       exact ⟨ret_bool (by simp [Civ.good, h1, h2, h3]), below_drewN ((Below.refl _ _).alloc (Nat.le_refl _) _) _⟩
     · have hd : decide (1 ≤ i) = false := by simpa using h3
       go_enter Tryz.func25, Tryz.ntmps25
       go_wp2
       go_quiet ((go_at_call 53; exact ref_many_q _ _ _))
       go_wp2
       go_ret
       exact ⟨ret_bool (by simp only [Civ.good, hd, Bool.and_false, Bool.false_and]), below_drewN ((Below.refl _ _).alloc (Nat.le_refl _) _) _⟩
   · have hd : decide (y ≤ 9999) = false := by simpa using h2
     go_enter Tryz.func25, Tryz.ntmps25
     go_wp2
     go_quiet ((go_at_call 53; exact ref_many_q _ _ _))
     go_wp2
     go_ret
     exact ⟨ret_bool (by simp only [Civ.good, hd, Bool.and_false, Bool.false_and]), below_drewN ((Below.refl _ _).alloc (Nat.le_refl _) _) _⟩
 · have hd : decide (1970 ≤ y) = false := by simpa using h1
   go_enter Tryz.func25, Tryz.ntmps25
   go_wp2
   go_quiet ((go_at_call 53; exact ref_many_q _ _ _))
   go_wp2
   go_ret
   exact ⟨ret_bool (by simp only [Civ.good, hd, Bool.false_and]), below_drewN ((Below.refl _ _).alloc (Nat.le_refl _) _) _⟩

end Go.Proofs.YtmjjenemokojjaaGreat.Civs
