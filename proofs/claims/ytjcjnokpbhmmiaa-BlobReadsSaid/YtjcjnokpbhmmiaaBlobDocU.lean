/- The document's reader: a text, its ways. -/
import Derived.Test.YtjcjnokpbhmmiaaBlobDocT
namespace Go.Proofs.Ytjcjnokpbhmmiaa
open Go.RowKit
set_option maxRecDepth 100000

set_option maxHeartbeats 4000000 in
theorem dtext_spoilt (w : World) (g : Nat) (A : Option Addr) (T : Text) (c : Nat) 
    (hN : Calls Try.prog 12 #[.pointer (some ⟨g, 0, none⟩)] w fun e w' => e = .returned (.int .i64 0) ∧ Only w w' g ∧ ∃ k, Drd w' g A T c k true) :
    Calls Try.prog 14 #[.pointer (some ⟨g, 0, none⟩)] w (TGot w g A T c none) := by
    have HN := Lib.hid hN
    clear hN
    go_enter Try.func14, Try.ntmps14
    go_wp2_with ((go_at_call 12; refine HN.out.mono ?_; rintro e w1 ⟨rfl, ho1, k, hr1⟩; have HR1 := Lib.hid (And.intro ho1 hr1); have c0 := cell_of_row w1 g 0 _ _ _ hr1.1; have c1 := cell_of_row w1 g 1 _ _ _ hr1.1; have c2 := cell_of_row w1 g 2 _ _ _ hr1.1; have f1 := frozen_of_row w1 g 1 _ _ hr1.1; have f2 := frozen_of_row w1 g 2 _ _ hr1.1; simp only [List.getElem?_toArray, List.getElem?_cons_zero, List.getElem?_cons_succ] at c0 c1 c2; clear ho1 hr1))
    go_quiet (fail)
    go_wp2
    go_ret
    exact dgot_later HR1.out.1 (dgot_bad (z := .string {data:=#[]}) HR1.out.2 _)

set_option maxHeartbeats 4000000 in
theorem dtext_minus (w : World) (g : Nat) (A : Option Addr) (T : Text) (c k : Nat) (n : Int) (hn : n < 0)
    (hN : Calls Try.prog 12 #[.pointer (some ⟨g, 0, none⟩)] w fun e w' => e = .returned (.int .i64 n) ∧ Only w w' g ∧ Drd w' g A T c k false) :
    Calls Try.prog 14 #[.pointer (some ⟨g, 0, none⟩)] w (TGot w g A T c none) := by
    have HN := Lib.hid hN
    clear hN
    go_enter Try.func14, Try.ntmps14
    go_wp2_with ((go_at_call 12; refine HN.out.mono ?_; rintro e w1 ⟨rfl, ho1, hr1⟩; have HR1 := Lib.hid (And.intro ho1 hr1); have c0 := cell_of_row w1 g 0 _ _ _ hr1.1; have c1 := cell_of_row w1 g 1 _ _ _ hr1.1; have c2 := cell_of_row w1 g 2 _ _ _ hr1.1; have f1 := frozen_of_row w1 g 1 _ _ hr1.1; have f2 := frozen_of_row w1 g 2 _ _ hr1.1; simp only [List.getElem?_toArray, List.getElem?_cons_zero, List.getElem?_cons_succ] at c0 c1 c2; clear ho1 hr1))
    go_quiet (fail)
    go_wp2
    go_ret
    exact dgot_later HR1.out.1 (dgot_bad (z := .string {data:=#[]}) HR1.out.2 _)

set_option maxHeartbeats 4000000 in
theorem dtext_long (w : World) (g : Nat) (A : Option Addr) (T : Text) (c k : Nat) (n : Nat) (hn : 65536 < n)
    (hN : Calls Try.prog 12 #[.pointer (some ⟨g, 0, none⟩)] w fun e w' => e = .returned (.int .i64 n) ∧ Only w w' g ∧ Drd w' g A T c k false) :
    Calls Try.prog 14 #[.pointer (some ⟨g, 0, none⟩)] w (TGot w g A T c none) := by
    have HN := Lib.hid hN
    clear hN
    have : decide ((65536 : Int) < (n : Int)) = true := decide_eq_true (by omega)
    have : decide ((n : Int) < (0 : Int)) = false := decide_eq_false (by omega)
    go_enter Try.func14, Try.ntmps14
    go_wp2_with ((go_at_call 12; refine HN.out.mono ?_; rintro e w1 ⟨rfl, ho1, hr1⟩; have HR1 := Lib.hid (And.intro ho1 hr1); have c0 := cell_of_row w1 g 0 _ _ _ hr1.1; have c1 := cell_of_row w1 g 1 _ _ _ hr1.1; have c2 := cell_of_row w1 g 2 _ _ _ hr1.1; have f1 := frozen_of_row w1 g 1 _ _ hr1.1; have f2 := frozen_of_row w1 g 2 _ _ hr1.1; simp only [List.getElem?_toArray, List.getElem?_cons_zero, List.getElem?_cons_succ] at c0 c1 c2; clear ho1 hr1))
    go_quiet (fail)
    go_wp2
    go_ret
    exact dgot_later HR1.out.1 (dgot_bad (z := .string {data:=#[]}) HR1.out.2 _)

set_option maxHeartbeats 4000000 in
theorem dtext_short (w : World) (g : Nat) (A : Option Addr) (T : Text) (c k : Nat) (n q : Nat) (hn : n ≤ 65536) (hq : T.length = k + q) (hs : q < n)
    (hN : Calls Try.prog 12 #[.pointer (some ⟨g, 0, none⟩)] w fun e w' => e = .returned (.int .i64 n) ∧ Only w w' g ∧ Drd w' g A T c k false) :
    Calls Try.prog 14 #[.pointer (some ⟨g, 0, none⟩)] w (TGot w g A T c none) := by
    have HN := Lib.hid hN
    clear hN
    have : decide ((65536 : Int) < (n : Int)) = false := decide_eq_false (by omega)
    have : decide ((n : Int) < (0 : Int)) = false := decide_eq_false (by omega)
    have w1 : IntKind.i64.wrap ((T.length : Int) - (k : Int)) = (q : Int) := by rw [IntWalk.i64_in _ (by omega)]; omega
    have : decide ((q : Int) < (n : Int)) = true := decide_eq_true (by omega)
    clear hq
    go_enter Try.func14, Try.ntmps14
    go_wp2_with ((go_at_call 12; refine HN.out.mono ?_; rintro e w1 ⟨rfl, ho1, hr1⟩; have HR1 := Lib.hid (And.intro ho1 hr1); have c0 := cell_of_row w1 g 0 _ _ _ hr1.1; have c1 := cell_of_row w1 g 1 _ _ _ hr1.1; have c2 := cell_of_row w1 g 2 _ _ _ hr1.1; have f1 := frozen_of_row w1 g 1 _ _ hr1.1; have f2 := frozen_of_row w1 g 2 _ _ hr1.1; simp only [List.getElem?_toArray, List.getElem?_cons_zero, List.getElem?_cons_succ] at c0 c1 c2; clear ho1 hr1))
    go_quiet (fail)
    go_wp2
    go_ret
    exact dgot_later HR1.out.1 (dgot_bad (z := .string {data:=#[]}) HR1.out.2 _)

set_option maxHeartbeats 4000000 in
theorem dtext_some (w : World) (g : Nat) (A : Option Addr) (T : Text) (c k : Nat) (n q : Nat) (hn : n ≤ 65536) (hq : T.length = k + q) (hs : n ≤ q) (a : Addr) (hA : A = some a) (hj : (T.length : Int) ≤ 5000) (hk : (k : Int) ≤ (T.length : Int))
    (hN : Calls Try.prog 12 #[.pointer (some ⟨g, 0, none⟩)] w fun e w' => e = .returned (.int .i64 n) ∧ Only w w' g ∧ Drd w' g A T c k false) :
    Calls Try.prog 14 #[.pointer (some ⟨g, 0, none⟩)] w (TGot w g A T c (some (⟨((T.drop k).take n).toArray⟩, T.drop (k + n)))) := by
    have HN := Lib.hid hN
    clear hN
    have : decide ((65536 : Int) < (n : Int)) = false := decide_eq_false (by omega)
    have : decide ((n : Int) < (0 : Int)) = false := decide_eq_false (by omega)
    have w1 : IntKind.i64.wrap ((T.length : Int) - (k : Int)) = (q : Int) := by rw [IntWalk.i64_in _ (by omega)]; omega
    have : decide ((q : Int) < (n : Int)) = false := decide_eq_false (by omega)
    have w2 : IntKind.i64.wrap ((k : Int) + (n : Int)) = ((k + n : Nat) : Int) := by rw [IntWalk.i64_in _ (by omega)]; omega
    obtain ⟨p, hp⟩ : ∃ p, p = k + n := ⟨_, rfl⟩
    rw [← hp] at w2
    have hpl : (p : Int) ≤ (T.length : Int) := by omega
    have hkp : (k : Int) ≤ (p : Int) := by omega
    have HP := Lib.hid (And.intro hp hq)
    subst hA
    clear hq hp
    go_enter Try.func14, Try.ntmps14
    go_wp2_with ((go_at_call 12; refine HN.out.mono ?_; rintro e w1 ⟨rfl, ho1, hr1⟩; have HR1 := Lib.hid (And.intro ho1 hr1); have c0 := cell_of_row w1 g 0 _ _ _ hr1.1; have c1 := cell_of_row w1 g 1 _ _ _ hr1.1; have c2 := cell_of_row w1 g 2 _ _ _ hr1.1; have f1 := frozen_of_row w1 g 1 _ _ hr1.1; have f2 := frozen_of_row w1 g 2 _ _ hr1.1; simp only [List.getElem?_toArray, List.getElem?_cons_zero, List.getElem?_cons_succ] at c0 c1 c2; clear ho1 hr1))
    have hlim := drd_lim HR1.out.2
    have hcl : (c : Int) ≤ 9223372036854775807 := by omega
    have hpc : (p : Int) ≤ (c : Int) := by omega
    have HCV := Lib.hid (fun n2 => cv_run HR1.out.2 HP.out.1 (by omega) (w1.drewN n2) (below_drewN (Below.refl _ _) _))
    go_quiet (fail)
    go_wp2
    have hcv := HCV.out
    go_quiet (fail)
    go_wp2
    all_goals
      go_ret
      try subst h
      show DGot w g (some a) T _ _ (some (.string _, _)) _ _
      refine dgot_fin (HR1.out.2.drewN _) (HR1.out.1.trans (Only.drewN _ _ _)) _ ?_ _ ?_
      · have := HP.out
        omega
      · have := HP.out
        omega
end Go.Proofs.Ytjcjnokpbhmmiaa
