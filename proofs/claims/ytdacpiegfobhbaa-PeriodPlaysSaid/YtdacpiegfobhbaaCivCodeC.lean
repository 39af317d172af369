/- Days, right periods, and where they begin and end, as the program tells them. -/
import Derived.Test.YtdacpiegfobhbaaCivCodeB
namespace Go.Proofs.Ytdacpiegfobhbaa
open Go.RowKit
set_option maxRecDepth 100000

theorem below_same {B : Nat} {w w' : World} (h : w = w') : Below B w w' := h ▸ Below.refl _ _

theorem code_leap (y : Int) (w : World) :
    Calls Try.prog 66 #[.int .i64 y] w fun e w' => e = .returned (.bool (Civ.leap y)) ∧ Below w.heap.size w w' :=
  (own_leap y w).mono fun _ _ ⟨he, hw⟩ => ⟨he, below_same hw⟩

/-- how many months a period of a kind has, or 0 -/
def kM (k : Int) : Int := if k = 1 then 1 else if k = 2 then 3 else if k = 3 then 12 else 0
set_option maxHeartbeats 400000 in
theorem code_kind (k : Int) (w : World) :
    Calls Try.prog 44 #[.int .i64 k] w fun e w' => e = .returned (.int .i64 (kM k)) ∧ w = w' := by
  go_enter Try.func44, Try.ntmps44
  go_wp2
  all_goals go_ret
  all_goals exact ⟨ret_int (by simp_all [kM]), rfl⟩
theorem code_kind_at {k K : Int} (h : kM k = K) (w : World) :
    Calls Try.prog 44 #[.int .i64 k] w fun e w' => e = .returned (.int .i64 K) ∧ w = w' := by
  have := code_kind k w
  rw [h] at this
  exact this

theorem begin_at (y m : Int) (w : World) (h1 : 1970 ≤ y) (h2 : y ≤ 9999) (h3 : 0 ≤ m) (h4 : m ≤ 12) :
    Calls Try.prog 54 #[.int .i64 y, .int .i64 m] w fun e w' => e = .returned (.int .i64 (Civ.years (y - 1970).toNat + Civ.months y m.toNat)) ∧ Below w.heap.size w w' := by
  have := code_begin y m.toNat w h1 h2 (by omega)
  rw [show ((m.toNat : Nat) : Int) = m by omega] at this
  exact this
end Go.Proofs.Ytdacpiegfobhbaa
