/- The document's reader: a number, refused. -/
import Derived.Test.YtmjjenemokojjaaGreatD14
namespace Go.Proofs.YtmjjenemokojjaaGreat
open Go.RowKit
set_option maxRecDepth 100000

set_option maxHeartbeats 4000000 in
theorem dnum_spoilt (w : World) (g : Nat) (A : Option Addr) (T : Text) (c at_ : Nat) (hr : Drd w g A T c at_ true) :
 Calls Tryz.prog 77 #[.pointer (some ⟨g, 0, none⟩)] w (DGot w g A T c (.int .i64 0) none) := by
 have HR := Lib.hid hr
 obtain ⟨hh, h2, h3, h4, h5, hT, h7, h8⟩ := hr
 have c0 := cell_of_row w g 0 _ _ _ hh
 have c1 := cell_of_row w g 1 _ _ _ hh
 have c2 := cell_of_row w g 2 _ _ _ hh
 have f1 := frozen_of_row w g 1 _ _ hh
 have f2 := frozen_of_row w g 2 _ _ hh
 simp only [List.getElem?_toArray, List.getElem?_cons_zero, List.getElem?_cons_succ] at c0 c1 c2
 have hj : (T.length : Int) ≤ 20000 := by omega
 have HB := Lib.hid (fun n => dgot_bad (z := .int .i64 0) HR.out n)
 clear hh hT h7 h8
 go_enter Tryz.func77, Tryz.ntmps77
 go_wp2
 go_quiet (fail)
 go_wp2
 go_ret
 exact HB.out _

set_option maxHeartbeats 4000000 in
theorem dnum_end (w : World) (g : Nat) (A : Option Addr) (T : Text) (c at_ : Nat) (hr : Drd w g A T c at_ false) (hlt : T.length ≤ at_) :
 Calls Tryz.prog 77 #[.pointer (some ⟨g, 0, none⟩)] w (DGot w g A T c (.int .i64 0) none) := by
 have HR := Lib.hid hr
 obtain ⟨hh, h2, h3, h4, h5, hT, h7, h8⟩ := hr
 have c0 := cell_of_row w g 0 _ _ _ hh
 have c1 := cell_of_row w g 1 _ _ _ hh
 have c2 := cell_of_row w g 2 _ _ _ hh
 have f1 := frozen_of_row w g 1 _ _ hh
 have f2 := frozen_of_row w g 2 _ _ hh
 simp only [List.getElem?_toArray, List.getElem?_cons_zero, List.getElem?_cons_succ] at c0 c1 c2
 have hj : (T.length : Int) ≤ 20000 := by omega
 have : decide ((T.length : Int) ≤ (at_ : Int)) = true := decide_eq_true (by omega)
 have : decide (T.length ≤ at_) = true := decide_eq_true (by omega)
 have HB := Lib.hid (fun n => dgot_bad (z := .int .i64 0) HR.out n)
 clear hh hT h7 h8
 go_enter Tryz.func77, Tryz.ntmps77
 go_wp2
 go_quiet (fail)
 go_wp2
 go_ret
 exact HB.out _

set_option maxHeartbeats 4000000 in
theorem dnum_long_true (w : World) (g : Nat) (a : Addr) (T : Text) (c at_ x m : Nat) (hr : Drd w g (some a) T c at_ false) (hlt : at_ < T.length) (hc : w.cell? (a.add at_) = some (.int .u8 x)) (hm : (x : Int) % 128 = (m : Int)) (hx : x ≤ 255) (hneg : 128 ≤ x) (hA : 8 < m) :
 Calls Tryz.prog 77 #[.pointer (some ⟨g, 0, none⟩)] w (DGot w g (some a) T c (.int .i64 0) none) := by
 have HR := Lib.hid hr
 obtain ⟨hh, h2, h3, h4, h5, hT, h7, h8⟩ := hr
 have c0 := cell_of_row w g 0 _ _ _ hh
 have c1 := cell_of_row w g 1 _ _ _ hh
 have c2 := cell_of_row w g 2 _ _ _ hh
 have f1 := frozen_of_row w g 1 _ _ hh
 have f2 := frozen_of_row w g 2 _ _ hh
 simp only [List.getElem?_toArray, List.getElem?_cons_zero, List.getElem?_cons_succ] at c0 c1 c2
 have hj : (T.length : Int) ≤ 20000 := by omega
 have : decide ((T.length : Int) ≤ (at_ : Int)) = false := decide_eq_false (by omega)
 have : decide (T.length ≤ at_) = false := decide_eq_false (by omega)
 have : (x : Int) ≤ 255 := by omega
 have : decide ((128 : Int) ≤ (x : Int)) = true := decide_eq_true (by omega)
 have : decide (128 ≤ x) = true := decide_eq_true (by omega)
 have : decide ((8 : Int) < (m : Int)) = true := decide_eq_true (by omega)
 have : decide (8 < m) = true := decide_eq_true (by omega)
 have HB := Lib.hid (fun n => dgot_bad (z := .int .i64 0) HR.out n)
 clear hh hT h7 h8
 go_enter Tryz.func77, Tryz.ntmps77
 go_wp2
 go_quiet (fail)
 go_wp2
 go_quiet (fail)
 go_wp2
 go_quiet (fail)
 go_wp2
 go_ret
 exact HB.out _

set_option maxHeartbeats 4000000 in
theorem dnum_long_false (w : World) (g : Nat) (a : Addr) (T : Text) (c at_ x m : Nat) (hr : Drd w g (some a) T c at_ false) (hlt : at_ < T.length) (hc : w.cell? (a.add at_) = some (.int .u8 x)) (hm : (x : Int) % 128 = (m : Int)) (hx : x ≤ 255) (hneg : x < 128) (hA : 8 < m) :
 Calls Tryz.prog 77 #[.pointer (some ⟨g, 0, none⟩)] w (DGot w g (some a) T c (.int .i64 0) none) := by
 have HR := Lib.hid hr
 obtain ⟨hh, h2, h3, h4, h5, hT, h7, h8⟩ := hr
 have c0 := cell_of_row w g 0 _ _ _ hh
 have c1 := cell_of_row w g 1 _ _ _ hh
 have c2 := cell_of_row w g 2 _ _ _ hh
 have f1 := frozen_of_row w g 1 _ _ hh
 have f2 := frozen_of_row w g 2 _ _ hh
 simp only [List.getElem?_toArray, List.getElem?_cons_zero, List.getElem?_cons_succ] at c0 c1 c2
 have hj : (T.length : Int) ≤ 20000 := by omega
 have : decide ((T.length : Int) ≤ (at_ : Int)) = false := decide_eq_false (by omega)
 have : decide (T.length ≤ at_) = false := decide_eq_false (by omega)
 have : (x : Int) ≤ 255 := by omega
 have : decide ((128 : Int) ≤ (x : Int)) = false := decide_eq_false (by omega)
 have : decide (128 ≤ x) = false := decide_eq_false (by omega)
 have : decide ((8 : Int) < (m : Int)) = true := decide_eq_true (by omega)
 have : decide (8 < m) = true := decide_eq_true (by omega)
 have HB := Lib.hid (fun n => dgot_bad (z := .int .i64 0) HR.out n)
 clear hh hT h7 h8
 go_enter Tryz.func77, Tryz.ntmps77
 go_wp2
 go_quiet (fail)
 go_wp2
 go_quiet (fail)
 go_wp2
 go_quiet (fail)
 go_wp2
 go_ret
 exact HB.out _

set_option maxHeartbeats 4000000 in
theorem dnum_minus (w : World) (g : Nat) (a : Addr) (T : Text) (c at_ x : Nat) (hr : Drd w g (some a) T c at_ false) (hlt : at_ < T.length) (hc : w.cell? (a.add at_) = some (.int .u8 x)) (hm : (x : Int) % 128 = 0) (hx : x ≤ 255) (hneg : 128 ≤ x) :
 Calls Tryz.prog 77 #[.pointer (some ⟨g, 0, none⟩)] w (DGot w g (some a) T c (.int .i64 0) none) := by
 have HR := Lib.hid hr
 obtain ⟨hh, h2, h3, h4, h5, hT, h7, h8⟩ := hr
 have c0 := cell_of_row w g 0 _ _ _ hh
 have c1 := cell_of_row w g 1 _ _ _ hh
 have c2 := cell_of_row w g 2 _ _ _ hh
 have f1 := frozen_of_row w g 1 _ _ hh
 have f2 := frozen_of_row w g 2 _ _ hh
 simp only [List.getElem?_toArray, List.getElem?_cons_zero, List.getElem?_cons_succ] at c0 c1 c2
 have hj : (T.length : Int) ≤ 20000 := by omega
 have : decide ((T.length : Int) ≤ (at_ : Int)) = false := decide_eq_false (by omega)
 have : decide (T.length ≤ at_) = false := decide_eq_false (by omega)
 have : (x : Int) ≤ 255 := by omega
 have : decide ((128 : Int) ≤ (x : Int)) = true := decide_eq_true (by omega)
 have : decide (128 ≤ x) = true := decide_eq_true (by omega)
 have HB := Lib.hid (fun n => dgot_bad (z := .int .i64 0) HR.out n)
 clear hh hT h7 h8
 go_enter Tryz.func77, Tryz.ntmps77
 go_wp2
 go_quiet (fail)
 go_wp2
 go_quiet (fail)
 go_wp2
 go_quiet (fail)
 go_wp2
 go_ret
 exact HB.out _

set_option maxHeartbeats 4000000 in
theorem dnum_short_true (w : World) (g : Nat) (a : Addr) (T : Text) (c at_ x m : Nat) (hr : Drd w g (some a) T c at_ false) (hlt : at_ < T.length) (hc : w.cell? (a.add at_) = some (.int .u8 x)) (hm : (x : Int) % 128 = (m : Int)) (hx : x ≤ 255) (hneg : 128 ≤ x ∧ 0 < m) (hA : m ≤ 8) (q rl : Nat) (hq : T.length = at_ + q) (hrl : q = rl + 1) (hC : rl < m) :
 Calls Tryz.prog 77 #[.pointer (some ⟨g, 0, none⟩)] w (DGot w g (some a) T c (.int .i64 0) none) := by
 have HR := Lib.hid hr
 obtain ⟨hh, h2, h3, h4, h5, hT, h7, h8⟩ := hr
 have c0 := cell_of_row w g 0 _ _ _ hh
 have c1 := cell_of_row w g 1 _ _ _ hh
 have c2 := cell_of_row w g 2 _ _ _ hh
 have f1 := frozen_of_row w g 1 _ _ hh
 have f2 := frozen_of_row w g 2 _ _ hh
 simp only [List.getElem?_toArray, List.getElem?_cons_zero, List.getElem?_cons_succ] at c0 c1 c2
 have hj : (T.length : Int) ≤ 20000 := by omega
 have : decide ((T.length : Int) ≤ (at_ : Int)) = false := decide_eq_false (by omega)
 have : decide (T.length ≤ at_) = false := decide_eq_false (by omega)
 have : (x : Int) ≤ 255 := by omega
 have : decide ((128 : Int) ≤ (x : Int)) = true := decide_eq_true (by omega)
 have : decide (128 ≤ x) = true := decide_eq_true (by omega)
 have : ((m : Int) == 0) = false := beq_false_of_ne (by omega)
 have : (m == 0) = false := beq_false_of_ne (by omega)
 have : decide (m = 0) = false := decide_eq_false (by omega)
 have : decide ((8 : Int) < (m : Int)) = false := decide_eq_false (by omega)
 have : decide (8 < m) = false := decide_eq_false (by omega)
 have w1 : IntKind.i64.wrap ((T.length : Int) - (at_ : Int)) = (q : Int) := by rw [IntWalk.i64_in _ (by omega)]; omega
 have w2 : IntKind.i64.wrap ((q : Int) - 1) = (rl : Int) := by rw [IntWalk.i64_in _ (by omega)]; omega
 have : decide ((rl : Int) < (m : Int)) = true := decide_eq_true (by omega)
 have : decide (rl < m) = true := decide_eq_true (by omega)
 have HB := Lib.hid (fun n => dgot_bad (z := .int .i64 0) HR.out n)
 clear hh hT h7 h8 hq hrl
 go_enter Tryz.func77, Tryz.ntmps77
 go_wp2
 go_quiet (fail)
 go_wp2
 go_quiet (fail)
 go_wp2
 go_quiet (fail)
 go_wp2
 go_ret
 exact HB.out _

set_option maxHeartbeats 4000000 in
theorem dnum_nought_true (w : World) (g : Nat) (a : Addr) (T : Text) (c at_ x m : Nat) (hr : Drd w g (some a) T c at_ false) (hlt : at_ < T.length) (hc : w.cell? (a.add at_) = some (.int .u8 x)) (hm : (x : Int) % 128 = (m : Int)) (hx : x ≤ 255) (hneg : 128 ≤ x ∧ 0 < m) (hA : m ≤ 8) (q rl : Nat) (hq : T.length = at_ + q) (hrl : q = rl + 1) (hC : m ≤ rl) (hP : 0 < m) (at1 : Nat) (hat : at1 = at_ + 1) (hy : w.cell? (a.add at1) = some (.int .u8 0)) :
 Calls Tryz.prog 77 #[.pointer (some ⟨g, 0, none⟩)] w (DGot w g (some a) T c (.int .i64 0) none) := by
 have HR := Lib.hid hr
 obtain ⟨hh, h2, h3, h4, h5, hT, h7, h8⟩ := hr
 have c0 := cell_of_row w g 0 _ _ _ hh
 have c1 := cell_of_row w g 1 _ _ _ hh
 have c2 := cell_of_row w g 2 _ _ _ hh
 have f1 := frozen_of_row w g 1 _ _ hh
 have f2 := frozen_of_row w g 2 _ _ hh
 simp only [List.getElem?_toArray, List.getElem?_cons_zero, List.getElem?_cons_succ] at c0 c1 c2
 have hj : (T.length : Int) ≤ 20000 := by omega
 have : decide ((T.length : Int) ≤ (at_ : Int)) = false := decide_eq_false (by omega)
 have : decide (T.length ≤ at_) = false := decide_eq_false (by omega)
 have : (x : Int) ≤ 255 := by omega
 have : decide ((128 : Int) ≤ (x : Int)) = true := decide_eq_true (by omega)
 have : decide (128 ≤ x) = true := decide_eq_true (by omega)
 have : ((m : Int) == 0) = false := beq_false_of_ne (by omega)
 have : (m == 0) = false := beq_false_of_ne (by omega)
 have : decide (m = 0) = false := decide_eq_false (by omega)
 have : decide ((8 : Int) < (m : Int)) = false := decide_eq_false (by omega)
 have : decide (8 < m) = false := decide_eq_false (by omega)
 have w1 : IntKind.i64.wrap ((T.length : Int) - (at_ : Int)) = (q : Int) := by rw [IntWalk.i64_in _ (by omega)]; omega
 have w2 : IntKind.i64.wrap ((q : Int) - 1) = (rl : Int) := by rw [IntWalk.i64_in _ (by omega)]; omega
 have : decide ((rl : Int) < (m : Int)) = false := decide_eq_false (by omega)
 have : decide (rl < m) = false := decide_eq_false (by omega)
 have : decide ((0 : Int) < (m : Int)) = true := decide_eq_true (by omega)
 have : decide (0 < m) = true := decide_eq_true (by omega)
 have w3 : IntKind.i64.wrap ((at_ : Int) + 1) = (at1 : Int) := by rw [IntWalk.i64_in _ (by omega)]; omega
 have : (at1 : Int) < (T.length : Int) := by omega
 have HB := Lib.hid (fun n => dgot_bad (z := .int .i64 0) HR.out n)
 clear hh hT h7 h8 hq hrl hat
 go_enter Tryz.func77, Tryz.ntmps77
 go_wp2
 go_quiet (fail)
 go_wp2
 go_quiet (fail)
 go_wp2
 go_quiet (fail)
 go_wp2
 go_ret
 exact HB.out _

set_option maxHeartbeats 4000000 in
theorem dnum_big_true (w : World) (g : Nat) (a : Addr) (T : Text) (c at_ x : Nat) (hr : Drd w g (some a) T c at_ false) (hlt : at_ < T.length) (hc : w.cell? (a.add at_) = some (.int .u8 x)) (hm : (x : Int) % 128 = 8) (hx : x ≤ 255) (hneg : 128 ≤ x) (q rl : Nat) (hq : T.length = at_ + q) (hrl : q = rl + 1) (hC : 8 ≤ rl) (at1 : Nat) (hat : at1 = at_ + 1) (y : Nat) (hy : w.cell? (a.add at1) = some (.int .u8 y)) (hy0 : 128 ≤ y) :
 Calls Tryz.prog 77 #[.pointer (some ⟨g, 0, none⟩)] w (DGot w g (some a) T c (.int .i64 0) none) := by
 have HR := Lib.hid hr
 obtain ⟨hh, h2, h3, h4, h5, hT, h7, h8⟩ := hr
 have c0 := cell_of_row w g 0 _ _ _ hh
 have c1 := cell_of_row w g 1 _ _ _ hh
 have c2 := cell_of_row w g 2 _ _ _ hh
 have f1 := frozen_of_row w g 1 _ _ hh
 have f2 := frozen_of_row w g 2 _ _ hh
 simp only [List.getElem?_toArray, List.getElem?_cons_zero, List.getElem?_cons_succ] at c0 c1 c2
 have hj : (T.length : Int) ≤ 20000 := by omega
 have : decide ((T.length : Int) ≤ (at_ : Int)) = false := decide_eq_false (by omega)
 have : decide (T.length ≤ at_) = false := decide_eq_false (by omega)
 have : (x : Int) ≤ 255 := by omega
 have : decide ((128 : Int) ≤ (x : Int)) = true := decide_eq_true (by omega)
 have : decide (128 ≤ x) = true := decide_eq_true (by omega)
 have w1 : IntKind.i64.wrap ((T.length : Int) - (at_ : Int)) = (q : Int) := by rw [IntWalk.i64_in _ (by omega)]; omega
 have w2 : IntKind.i64.wrap ((q : Int) - 1) = (rl : Int) := by rw [IntWalk.i64_in _ (by omega)]; omega
 have : decide ((rl : Int) < (8 : Int)) = false := decide_eq_false (by omega)
 have : decide (rl < 8) = false := decide_eq_false (by omega)
 have w3 : IntKind.i64.wrap ((at_ : Int) + 1) = (at1 : Int) := by rw [IntWalk.i64_in _ (by omega)]; omega
 have : (at1 : Int) < (T.length : Int) := by omega
 have : ((y : Int) == 0) = false := beq_false_of_ne (by omega)
 have : (y == 0) = false := beq_false_of_ne (by omega)
 have : decide (y = 0) = false := decide_eq_false (by omega)
 have : decide ((128 : Int) ≤ (y : Int)) = true := decide_eq_true (by omega)
 have : decide (128 ≤ y) = true := decide_eq_true (by omega)
 have HB := Lib.hid (fun n => dgot_bad (z := .int .i64 0) HR.out n)
 clear hh hT h7 h8 hq hrl hat
 go_enter Tryz.func77, Tryz.ntmps77
 go_wp2
 go_quiet (fail)
 go_wp2
 go_quiet (fail)
 go_wp2
 go_quiet (fail)
 go_wp2
 go_ret
 exact HB.out _

set_option maxHeartbeats 4000000 in
theorem dnum_short_false (w : World) (g : Nat) (a : Addr) (T : Text) (c at_ x m : Nat) (hr : Drd w g (some a) T c at_ false) (hlt : at_ < T.length) (hc : w.cell? (a.add at_) = some (.int .u8 x)) (hm : (x : Int) % 128 = (m : Int)) (hx : x ≤ 255) (hneg : x < 128) (hA : m ≤ 8) (q rl : Nat) (hq : T.length = at_ + q) (hrl : q = rl + 1) (hC : rl < m) :
 Calls Tryz.prog 77 #[.pointer (some ⟨g, 0, none⟩)] w (DGot w g (some a) T c (.int .i64 0) none) := by
 have HR := Lib.hid hr
 obtain ⟨hh, h2, h3, h4, h5, hT, h7, h8⟩ := hr
 have c0 := cell_of_row w g 0 _ _ _ hh
 have c1 := cell_of_row w g 1 _ _ _ hh
 have c2 := cell_of_row w g 2 _ _ _ hh
 have f1 := frozen_of_row w g 1 _ _ hh
 have f2 := frozen_of_row w g 2 _ _ hh
 simp only [List.getElem?_toArray, List.getElem?_cons_zero, List.getElem?_cons_succ] at c0 c1 c2
 have hj : (T.length : Int) ≤ 20000 := by omega
 have : decide ((T.length : Int) ≤ (at_ : Int)) = false := decide_eq_false (by omega)
 have : decide (T.length ≤ at_) = false := decide_eq_false (by omega)
 have : (x : Int) ≤ 255 := by omega
 have : decide ((128 : Int) ≤ (x : Int)) = false := decide_eq_false (by omega)
 have : decide (128 ≤ x) = false := decide_eq_false (by omega)
 have : decide ((8 : Int) < (m : Int)) = false := decide_eq_false (by omega)
 have : decide (8 < m) = false := decide_eq_false (by omega)
 have w1 : IntKind.i64.wrap ((T.length : Int) - (at_ : Int)) = (q : Int) := by rw [IntWalk.i64_in _ (by omega)]; omega
 have w2 : IntKind.i64.wrap ((q : Int) - 1) = (rl : Int) := by rw [IntWalk.i64_in _ (by omega)]; omega
 have : decide ((rl : Int) < (m : Int)) = true := decide_eq_true (by omega)
 have : decide (rl < m) = true := decide_eq_true (by omega)
 have HB := Lib.hid (fun n => dgot_bad (z := .int .i64 0) HR.out n)
 clear hh hT h7 h8 hq hrl
 go_enter Tryz.func77, Tryz.ntmps77
 go_wp2
 go_quiet (fail)
 go_wp2
 go_quiet (fail)
 go_wp2
 go_quiet (fail)
 go_wp2
 go_ret
 exact HB.out _

set_option maxHeartbeats 4000000 in
theorem dnum_nought_false (w : World) (g : Nat) (a : Addr) (T : Text) (c at_ x m : Nat) (hr : Drd w g (some a) T c at_ false) (hlt : at_ < T.length) (hc : w.cell? (a.add at_) = some (.int .u8 x)) (hm : (x : Int) % 128 = (m : Int)) (hx : x ≤ 255) (hneg : x < 128) (hA : m ≤ 8) (q rl : Nat) (hq : T.length = at_ + q) (hrl : q = rl + 1) (hC : m ≤ rl) (hP : 0 < m) (at1 : Nat) (hat : at1 = at_ + 1) (hy : w.cell? (a.add at1) = some (.int .u8 0)) :
 Calls Tryz.prog 77 #[.pointer (some ⟨g, 0, none⟩)] w (DGot w g (some a) T c (.int .i64 0) none) := by
 have HR := Lib.hid hr
 obtain ⟨hh, h2, h3, h4, h5, hT, h7, h8⟩ := hr
 have c0 := cell_of_row w g 0 _ _ _ hh
 have c1 := cell_of_row w g 1 _ _ _ hh
 have c2 := cell_of_row w g 2 _ _ _ hh
 have f1 := frozen_of_row w g 1 _ _ hh
 have f2 := frozen_of_row w g 2 _ _ hh
 simp only [List.getElem?_toArray, List.getElem?_cons_zero, List.getElem?_cons_succ] at c0 c1 c2
 have hj : (T.length : Int) ≤ 20000 := by omega
 have : decide ((T.length : Int) ≤ (at_ : Int)) = false := decide_eq_false (by omega)
 have : decide (T.length ≤ at_) = false := decide_eq_false (by omega)
 have : (x : Int) ≤ 255 := by omega
 have : decide ((128 : Int) ≤ (x : Int)) = false := decide_eq_false (by omega)
 have : decide (128 ≤ x) = false := decide_eq_false (by omega)
 have : decide ((8 : Int) < (m : Int)) = false := decide_eq_false (by omega)
 have : decide (8 < m) = false := decide_eq_false (by omega)
 have w1 : IntKind.i64.wrap ((T.length : Int) - (at_ : Int)) = (q : Int) := by rw [IntWalk.i64_in _ (by omega)]; omega
 have w2 : IntKind.i64.wrap ((q : Int) - 1) = (rl : Int) := by rw [IntWalk.i64_in _ (by omega)]; omega
 have : decide ((rl : Int) < (m : Int)) = false := decide_eq_false (by omega)
 have : decide (rl < m) = false := decide_eq_false (by omega)
 have : decide ((0 : Int) < (m : Int)) = true := decide_eq_true (by omega)
 have : decide (0 < m) = true := decide_eq_true (by omega)
 have w3 : IntKind.i64.wrap ((at_ : Int) + 1) = (at1 : Int) := by rw [IntWalk.i64_in _ (by omega)]; omega
 have : (at1 : Int) < (T.length : Int) := by omega
 have HB := Lib.hid (fun n => dgot_bad (z := .int .i64 0) HR.out n)
 clear hh hT h7 h8 hq hrl hat
 go_enter Tryz.func77, Tryz.ntmps77
 go_wp2
 go_quiet (fail)
 go_wp2
 go_quiet (fail)
 go_wp2
 go_quiet (fail)
 go_wp2
 go_ret
 exact HB.out _

set_option maxHeartbeats 4000000 in
theorem dnum_big_false (w : World) (g : Nat) (a : Addr) (T : Text) (c at_ x : Nat) (hr : Drd w g (some a) T c at_ false) (hlt : at_ < T.length) (hc : w.cell? (a.add at_) = some (.int .u8 x)) (hm : (x : Int) % 128 = 8) (hx : x ≤ 255) (hneg : x < 128) (q rl : Nat) (hq : T.length = at_ + q) (hrl : q = rl + 1) (hC : 8 ≤ rl) (at1 : Nat) (hat : at1 = at_ + 1) (y : Nat) (hy : w.cell? (a.add at1) = some (.int .u8 y)) (hy0 : 128 ≤ y) :
 Calls Tryz.prog 77 #[.pointer (some ⟨g, 0, none⟩)] w (DGot w g (some a) T c (.int .i64 0) none) := by
 have HR := Lib.hid hr
 obtain ⟨hh, h2, h3, h4, h5, hT, h7, h8⟩ := hr
 have c0 := cell_of_row w g 0 _ _ _ hh
 have c1 := cell_of_row w g 1 _ _ _ hh
 have c2 := cell_of_row w g 2 _ _ _ hh
 have f1 := frozen_of_row w g 1 _ _ hh
 have f2 := frozen_of_row w g 2 _ _ hh
 simp only [List.getElem?_toArray, List.getElem?_cons_zero, List.getElem?_cons_succ] at c0 c1 c2
 have hj : (T.length : Int) ≤ 20000 := by omega
 have : decide ((T.length : Int) ≤ (at_ : Int)) = false := decide_eq_false (by omega)
 have : decide (T.length ≤ at_) = false := decide_eq_false (by omega)
 have : (x : Int) ≤ 255 := by omega
 have : decide ((128 : Int) ≤ (x : Int)) = false := decide_eq_false (by omega)
 have : decide (128 ≤ x) = false := decide_eq_false (by omega)
 have w1 : IntKind.i64.wrap ((T.length : Int) - (at_ : Int)) = (q : Int) := by rw [IntWalk.i64_in _ (by omega)]; omega
 have w2 : IntKind.i64.wrap ((q : Int) - 1) = (rl : Int) := by rw [IntWalk.i64_in _ (by omega)]; omega
 have : decide ((rl : Int) < (8 : Int)) = false := decide_eq_false (by omega)
 have : decide (rl < 8) = false := decide_eq_false (by omega)
 have w3 : IntKind.i64.wrap ((at_ : Int) + 1) = (at1 : Int) := by rw [IntWalk.i64_in _ (by omega)]; omega
 have : (at1 : Int) < (T.length : Int) := by omega
 have : ((y : Int) == 0) = false := beq_false_of_ne (by omega)
 have : (y == 0) = false := beq_false_of_ne (by omega)
 have : decide (y = 0) = false := decide_eq_false (by omega)
 have : decide ((128 : Int) ≤ (y : Int)) = true := decide_eq_true (by omega)
 have : decide (128 ≤ y) = true := decide_eq_true (by omega)
 have HB := Lib.hid (fun n => dgot_bad (z := .int .i64 0) HR.out n)
 clear hh hT h7 h8 hq hrl hat
 go_enter Tryz.func77, Tryz.ntmps77
 go_wp2
 go_quiet (fail)
 go_wp2
 go_quiet (fail)
 go_wp2
 go_quiet (fail)
 go_wp2
 go_ret
 exact HB.out _

end Go.Proofs.YtmjjenemokojjaaGreat
