/- The document's reader: a flag. -/
import Derived.Test.YtjcjnokpbhmmiaaBlobDocR
import Derived.Test.YtjcjnokpbhmmiaaBlobInv
import Derived.Deep.QuietTactic
import Derived.BigQuiet
import Derived.WalkSmall
namespace Go.Proofs.Ytjcjnokpbhmmiaa
open Go.RowKit
set_option maxRecDepth 100000

theorem Drd.drewN {w : World} {g : Nat} {A : Option Addr} {T : Text} {c at_ : Nat} {bad : Bool} (h : Drd w g A T c at_ bad) (n : Nat) : Drd (w.drewN n) g A T c at_ bad := h.below (below_drewN (Below.refl _ _) n)
theorem Only.drewN (w : World) (g n : Nat) : Only w (w.drewN n) g := .of_below (below_drewN (Below.refl _ _) n)
theorem dv_at {T : Text} {at_ : Nat} (h : at_ < T.length) : dv T at_ false = T[at_] :: T.drop (at_ + 1) := List.drop_eq_getElem_cons h
theorem dv_end {T : Text} {at_ : Nat} (h : T.length ≤ at_) : dv T at_ false = [] := List.drop_eq_nil_of_le h
/-- it goes bad, or it has gone on -/
theorem dgot_bad {w : World} {g : Nat} {A : Option Addr} {T : Text} {c at_ : Nat} {bad : Bool} {z : Value} (h : Drd w g A T c at_ bad) (n : Nat) : DGot w g A T c z none (.returned z) ((w.drewN n).setCell ⟨g, 2, none⟩ (.bool true)) := by
  obtain ⟨h1, h2⟩ := (h.drewN n).bad
  exact ⟨rfl, (Only.drewN w g n).trans h2, at_, h1⟩
theorem dgot_on {w : World} {g : Nat} {A : Option Addr} {T : Text} {c at_ : Nat} {z v : Value} (h : Drd w g A T c at_ false) (n m k : Nat) (hk : k ≤ T.length) : DGot w g A T c z (some (v, T.drop k)) (.returned v) (((w.drewN n).setCell ⟨g, 1, none⟩ (.int .i64 k)).drewN m) := by
  obtain ⟨h1, h2⟩ := (h.drewN n).to k hk
  exact ⟨rfl, ((Only.drewN w g n).trans h2).trans (Only.drewN _ g m), k, h1.drewN m, rfl⟩

set_option maxHeartbeats 1000000 in
theorem doc_flag (w : World) (g : Nat) (A : Option Addr) (T : Text) (c at_ : Nat) (bad : Bool) (hr : Drd w g A T c at_ bad) :
    Calls Try.prog 16 #[.pointer (some ⟨g, 0, none⟩)] w (DGot w g A T c (.bool false) ((flagP (dv T at_ bad)).map fun p => (.bool p.1, p.2))) := by
  have HR := Lib.hid hr
  obtain ⟨hh, h2, h3, h4, h5, hT, h7, h8⟩ := hr
  have c0 := cell_of_row w g 0 _ _ _ hh
  have c1 := cell_of_row w g 1 _ _ _ hh
  have c2 := cell_of_row w g 2 _ _ _ hh
  have f1 := frozen_of_row w g 1 _ _ hh
  have f2 := frozen_of_row w g 2 _ _ hh
  simp only [List.getElem?_toArray, List.getElem?_cons_zero, List.getElem?_cons_succ] at c0 c1 c2
  have hj : (T.length : Int) ≤ 5000 := by omega
  have hk : (at_ : Int) ≤ (T.length : Int) := by omega
  clear hh
  cases bad with
  | true =>
    have HB := Lib.hid (fun n => dgot_bad (z := .bool false) HR.out n)
    have HD : Hid ((flagP (dv T at_ true)).map (fun p => (Value.bool p.1, p.2)) = none) := Lib.hid rfl
    rw [HD.out]
    clear hT h7 h8
    go_enter Try.func16, Try.ntmps16
    go_wp2
    go_quiet (fail)
    go_wp2
    go_ret
    exact HB.out _
  | false =>
    by_cases hlt : at_ < T.length
    · obtain ⟨a, rfl, hab, hc⟩ := hT.at_ hlt
      obtain ⟨x, hx⟩ : ∃ x, x = T[at_].toNat := ⟨_, rfl⟩
      rw [← hx] at hc
      have HX := Lib.hid hx
      have hi : (at_ : Int) < (T.length : Int) := by omega
      have d1 : decide ((T.length : Int) ≤ (at_ : Int)) = false := decide_eq_false (by omega)
      have ha8 := h8 (by rintro rfl; simp at hlt) a rfl
      clear hx hT h7 h8
      by_cases hv : x ≤ 1
      · have HD : Hid ((flagP (dv T at_ false)).map (fun p => (Value.bool p.1, p.2)) = some (.bool (decide (x = 1)), T.drop (at_ + 1))) := Lib.hid (by
          rw [dv_at hlt, HX.out]
          unfold flagP
          simp only
          rw [if_pos (by rw [← HX.out]; exact hv)]
          rfl)
        rw [HD.out]
        have d2 : decide (1 < (x : Int)) = false := decide_eq_false (by omega)
        have HB := Lib.hid (fun n m => dgot_on (z := .bool false) (v := .bool (decide (x = 1))) HR.out n m (at_ + 1) hlt)
        have HC : Hid (∀ n, ((w.drewN n).setCell ⟨g, 1, none⟩ (.int .i64 (at_ + 1))).cell? (a.add at_) = some (.int .u8 x)) := Lib.hid (fun n => by
          rw [World.cell?_of_block (w := w) (by rw [add_block]; exact (Only.set (w.drewN n) g 1 _).block _ (by exact hab) (by exact ha8))]
          exact hc)
        have hE : (((x : Nat) : Int) == 1) = decide (x = 1) := by rw [Bool.eq_iff_iff]; simp; omega
        clear HD hv
        go_enter Try.func16, Try.ntmps16
        go_wp2
        go_quiet (fail)
        go_wp2
        have hC := HC.out nq
        have e1 : ((at_ : Int) + 1 - 1).toNat = at_ := by omega
        go_quiet (fail)
        go_wp2
        go_ret
        exact HB.out _ _
      · have HD : Hid ((flagP (dv T at_ false)).map (fun p => (Value.bool p.1, p.2)) = none) := Lib.hid (by
          rw [dv_at hlt]
          unfold flagP
          simp only
          rw [if_neg (by rw [← HX.out]; exact hv)]
          rfl)
        rw [HD.out]
        have d2 : decide (1 < (x : Int)) = true := decide_eq_true (by omega)
        have HB := Lib.hid (fun n => dgot_bad (z := .bool false) HR.out n)
        clear HD hv
        go_enter Try.func16, Try.ntmps16
        go_wp2
        go_quiet (fail)
        go_wp2
        go_ret
        exact HB.out _
    · have hi : (T.length : Int) ≤ (at_ : Int) := by omega
      have HD : Hid ((flagP (dv T at_ false)).map (fun p => (Value.bool p.1, p.2)) = none) := Lib.hid (by
        rw [dv_end (by omega)]; rfl)
      rw [HD.out]
      have d1 : decide ((T.length : Int) ≤ (at_ : Int)) = true := decide_eq_true (by omega)
      have HB := Lib.hid (fun n => dgot_bad (z := .bool false) HR.out n)
      clear hT h7 h8 HD hlt
      go_enter Try.func16, Try.ntmps16
      go_wp2
      go_quiet (fail)
      go_wp2
      go_ret
      exact HB.out _
end Go.Proofs.Ytjcjnokpbhmmiaa
