/- The document's reader: a number, read. -/
import Derived.Test.YtmjjenemokojjaaGreatD16
namespace Go.Proofs.YtmjjenemokojjaaGreat
open Go.RowKit
set_option maxRecDepth 100000

set_option maxHeartbeats 4000000 in
theorem dnum_some_true (w : World) (g : Nat) (a : Addr) (T : Text) (c at_ x m : Nat) (hr : Drd w g (some a) T c at_ false) (hlt : at_ < T.length) (hc : w.cell? (a.add at_) = some (.int .u8 x)) (hm : (x : Int) % 128 = (m : Int)) (hx : x ≤ 255) (V : Nat) (hV : V = Blob.val ((T.drop (at_ + 1)).take m)) (hV2 : V ≤ 9223372036854775807) (hC : m ≤ T.length - (at_ + 1)) (hneg : 128 ≤ x) (hA : m < 8) (hP : 0 < m) (at1 y : Nat) (hat : at1 = at_ + 1) (hy : w.cell? (a.add at1) = some (.int .u8 y)) (hy0 : 0 < y) :
 Calls Tryz.prog 77 #[.pointer (some ⟨g, 0, none⟩)] w (DGot w g (some a) T c (.int .i64 0) (some (.int .i64 (-(V : Int)), T.drop (at_ + 1 + m)))) := by
 have HR := Lib.hid hr
 obtain ⟨hh, h2, h3, h4, h5, hT, h7, h8⟩ := hr
 have c0 := cell_of_row w g 0 _ _ _ hh
 have c1 := cell_of_row w g 1 _ _ _ hh
 have c2 := cell_of_row w g 2 _ _ _ hh
 have f1 := frozen_of_row w g 1 _ _ hh
 have f2 := frozen_of_row w g 2 _ _ hh
 simp only [List.getElem?_toArray, List.getElem?_cons_zero, List.getElem?_cons_succ] at c0 c1 c2
 have hj : (T.length : Int) ≤ 20000 := by omega
 obtain ⟨q, rl, hq, hrl⟩ : ∃ q rl : Nat, T.length = at_ + q ∧ q = rl + 1 := ⟨T.length - at_, T.length - at_ - 1, by omega, by omega⟩
 have : decide ((T.length : Int) ≤ (at_ : Int)) = false := decide_eq_false (by omega)
 have : decide (T.length ≤ at_) = false := decide_eq_false (by omega)
 have : (x : Int) ≤ 255 := by omega
 have : decide ((128 : Int) ≤ (x : Int)) = true := decide_eq_true (by omega)
 have : decide (128 ≤ x) = true := decide_eq_true (by omega)
 have : decide ((8 : Int) < (m : Int)) = false := decide_eq_false (by omega)
 have : decide (8 < m) = false := decide_eq_false (by omega)
 have w1 : IntKind.i64.wrap ((T.length : Int) - (at_ : Int)) = (q : Int) := by rw [IntWalk.i64_in _ (by omega)]; omega
 have w2 : IntKind.i64.wrap ((q : Int) - 1) = (rl : Int) := by rw [IntWalk.i64_in _ (by omega)]; omega
 have : decide ((0 : Int) < (m : Int)) = true := decide_eq_true (by omega)
 have : decide (0 < m) = true := decide_eq_true (by omega)
 have : ((m : Int) == 0) = false := beq_false_of_ne (by omega)
 have : (m == 0) = false := beq_false_of_ne (by omega)
 have : decide (m = 0) = false := decide_eq_false (by omega)
 have : decide ((rl : Int) < (m : Int)) = false := decide_eq_false (by omega)
 have : decide (rl < m) = false := decide_eq_false (by omega)
 have w3 : IntKind.i64.wrap ((at_ : Int) + 1) = (at1 : Int) := by rw [IntWalk.i64_in _ (by omega)]; omega
 have : (at1 : Int) < (T.length : Int) := by omega
 have : ((y : Int) == 0) = false := beq_false_of_ne (by omega)
 have : (y == 0) = false := beq_false_of_ne (by omega)
 have : decide (y = 0) = false := decide_eq_false (by omega)
 have : ((m : Int) == 8) = false := beq_false_of_ne (by omega)
 have : (m == 8) = false := beq_false_of_ne (by omega)
 have : decide (m = 8) = false := decide_eq_false (by omega)
 have HAT := Lib.hid hat
 have HM := Lib.hid (val_steps (T := T) hV hV2 (by omega))
 have hVi : (V : Int) ≤ 9223372036854775807 := by omega
 have HV := Lib.hid hV
 have hm8 : (m : Int) ≤ 8 := by omega
 have HT := Lib.hid hT
 have HL : Hid (at_ + 1 + m ≤ T.length) := Lib.hid (by omega)
 clear hh hT h7 h8 hq hrl hV hat
 go_enter Tryz.func77, Tryz.ntmps77
 go_wp2
 go_quiet (fail)
 go_wp2
 go_quiet (fail)
 go_wp2
 go_quiet (fail)
 go_wp2
 generalize hW1 : w.drewN _ = w1
 have HI : Hid (Drd w1 g (some a) T c at_ false ∧ Only w w1 g) := Lib.hid (by rw [← hW1]; exact ⟨HR.out.drewN _, Only.drewN _ _ _⟩)
 clear hW1 c0 c1 c2 f1 f2 hc
 go_loopw [6, 7] (fun n i wr => ∃ (j i1 vj : Nat), j ≤ m ∧ i = .int .i64 (i1 : Int) ∧ (i1 : Int) = (j : Int) + 1 ∧ n = .int .i64 (vj : Int) ∧ Hid (vj = Blob.val ((T.drop (at_ + 1)).take j)) ∧ Hid (Drd wr g (some a) T c at_ false ∧ Only w wr g)) (fun _ i _ => m + 1 - (intOf i).toNat)
 case atStart => exact ⟨0, 1, 0, Nat.zero_le _, rfl, rfl, rfl, Lib.hid rfl, Lib.hid ⟨HI.out.1.drewN _, HI.out.2.trans (Only.drewN _ _ _)⟩⟩
 case round =>
  obtain ⟨j, i1, vj, hjm, rfl, hi1, rfl, HJ, HW⟩ := hrel
  have hh := HW.out.1.1
  have c0 := cell_of_row wr g 0 _ _ _ hh
  have c1 := cell_of_row wr g 1 _ _ _ hh
  have f1 := frozen_of_row wr g 1 _ _ hh
  simp only [List.getElem?_toArray, List.getElem?_cons_zero, List.getElem?_cons_succ] at c0 c1
  clear hh
  by_cases hlt2 : j < m
  · obtain ⟨b, v2, p, hb, s1, s2, s3, s4, s5⟩ := HM.out j hlt2
    rw [← HJ.out] at s2
    have hi2 : i1 = j + 1 := by omega
    have hcb : wr.cell? (a.add p) = some (.int .u8 (b : Int)) := by
     obtain ⟨a2, e2, _, k2⟩ := HW.out.1.2.2.2.2.2.1.at_ (k := p) (by omega)
     injection e2 with e2
     subst e2
     rw [k2, s4]
    have hil : (i1 : Int) ≤ (m : Int) := by omega
    have w4 : IntKind.i64.wrap ((vj : Int) * 256) = ((vj * 256 : Nat) : Int) := by rw [IntWalk.i64_in _ (by omega)]; omega
    obtain ⟨v3, hv3⟩ : ∃ v3, v3 = vj * 256 := ⟨_, rfl⟩
    rw [← hv3] at w4
    have w5 : IntKind.i64.wrap ((at_ : Int) + (i1 : Int)) = (p : Int) := by rw [IntWalk.i64_in _ (by omega)]; omega
    have w6 : IntKind.i64.wrap ((v3 : Int) + (b : Int)) = (v2 : Int) := by rw [IntWalk.i64_in _ (by omega)]; omega
    have hp : (p : Int) < (T.length : Int) := by omega
    have hb2 : (b : Int) ≤ 255 := by omega
    have HS := Lib.hid (And.intro s1 (And.intro s2 hv3))
    have HI2 := Lib.hid hi2
    clear s1 s2 s3 s4 s5 hv3 hi2 hb hi1
    go_wp2
    go_quiet (fail)
    go_wp2
    go_roundw
    case rel => exact ⟨j + 1, i1 + 1, v2, by omega, by have := HI2.out; subst this; go_num, by have := HI2.out; omega, rfl, Lib.hid HS.out.1, Lib.hid ⟨HW.out.1.drewN _, HW.out.2.trans (Only.drewN _ _ _)⟩⟩
    case measure => have := HI2.out; simp [intOf]; omega
  · obtain rfl : j = m := by omega
    have hil : (j : Int) < (i1 : Int) := by omega
    have hv : vj = V := by rw [HJ.out, HV.out]
    subst hv
    clear HJ HV hi1
    go_wp2
    go_ret
    exact dgot_fin HW.out.1 HW.out.2 (at_ + 1 + j) HL.out _ (by have := HAT.out; omega)

set_option maxHeartbeats 4000000 in
theorem dnum_eight_false (w : World) (g : Nat) (a : Addr) (T : Text) (c at_ x m : Nat) (hr : Drd w g (some a) T c at_ false) (hlt : at_ < T.length) (hc : w.cell? (a.add at_) = some (.int .u8 x)) (hm : (x : Int) % 128 = (m : Int)) (hx : x ≤ 255) (V : Nat) (hV : V = Blob.val ((T.drop (at_ + 1)).take m)) (hV2 : V ≤ 9223372036854775807) (hC : m ≤ T.length - (at_ + 1)) (hneg : x < 128) (hmE : m = 8) (at1 y : Nat) (hat : at1 = at_ + 1) (hy : w.cell? (a.add at1) = some (.int .u8 y)) (hy0 : 0 < y) (hy8 : y < 128) :
 Calls Tryz.prog 77 #[.pointer (some ⟨g, 0, none⟩)] w (DGot w g (some a) T c (.int .i64 0) (some (.int .i64 (V : Int), T.drop (at_ + 1 + m)))) := by
 have HR := Lib.hid hr
 obtain ⟨hh, h2, h3, h4, h5, hT, h7, h8⟩ := hr
 have c0 := cell_of_row w g 0 _ _ _ hh
 have c1 := cell_of_row w g 1 _ _ _ hh
 have c2 := cell_of_row w g 2 _ _ _ hh
 have f1 := frozen_of_row w g 1 _ _ hh
 have f2 := frozen_of_row w g 2 _ _ hh
 simp only [List.getElem?_toArray, List.getElem?_cons_zero, List.getElem?_cons_succ] at c0 c1 c2
 have hj : (T.length : Int) ≤ 20000 := by omega
 obtain ⟨q, rl, hq, hrl⟩ : ∃ q rl : Nat, T.length = at_ + q ∧ q = rl + 1 := ⟨T.length - at_, T.length - at_ - 1, by omega, by omega⟩
 have : decide ((T.length : Int) ≤ (at_ : Int)) = false := decide_eq_false (by omega)
 have : decide (T.length ≤ at_) = false := decide_eq_false (by omega)
 have : (x : Int) ≤ 255 := by omega
 have : decide ((128 : Int) ≤ (x : Int)) = false := decide_eq_false (by omega)
 have : decide (128 ≤ x) = false := decide_eq_false (by omega)
 have : decide ((8 : Int) < (m : Int)) = false := decide_eq_false (by omega)
 have : decide (8 < m) = false := decide_eq_false (by omega)
 have w1 : IntKind.i64.wrap ((T.length : Int) - (at_ : Int)) = (q : Int) := by rw [IntWalk.i64_in _ (by omega)]; omega
 have w2 : IntKind.i64.wrap ((q : Int) - 1) = (rl : Int) := by rw [IntWalk.i64_in _ (by omega)]; omega
 have : decide ((0 : Int) < (m : Int)) = true := decide_eq_true (by omega)
 have : decide (0 < m) = true := decide_eq_true (by omega)
 have : ((m : Int) == 0) = false := beq_false_of_ne (by omega)
 have : (m == 0) = false := beq_false_of_ne (by omega)
 have : decide (m = 0) = false := decide_eq_false (by omega)
 have : decide ((rl : Int) < (m : Int)) = false := decide_eq_false (by omega)
 have : decide (rl < m) = false := decide_eq_false (by omega)
 have w3 : IntKind.i64.wrap ((at_ : Int) + 1) = (at1 : Int) := by rw [IntWalk.i64_in _ (by omega)]; omega
 have : (at1 : Int) < (T.length : Int) := by omega
 have : ((y : Int) == 0) = false := beq_false_of_ne (by omega)
 have : (y == 0) = false := beq_false_of_ne (by omega)
 have : decide (y = 0) = false := decide_eq_false (by omega)
 have : ((m : Int) == 8) = true := beq_iff_eq.2 (by omega)
 have : (m == 8) = true := beq_iff_eq.2 (by omega)
 have : decide (m = 8) = true := decide_eq_true (by omega)
 have : decide ((128 : Int) ≤ (y : Int)) = false := decide_eq_false (by omega)
 have : decide (128 ≤ y) = false := decide_eq_false (by omega)
 have : decide ((rl : Int) < (8 : Int)) = false := decide_eq_false (by omega)
 have : decide (rl < 8) = false := decide_eq_false (by omega)
 have HAT := Lib.hid hat
 have HM := Lib.hid (val_steps (T := T) hV hV2 (by omega))
 have hVi : (V : Int) ≤ 9223372036854775807 := by omega
 have HV := Lib.hid hV
 have hm8 : (m : Int) ≤ 8 := by omega
 have HT := Lib.hid hT
 have HL : Hid (at_ + 1 + m ≤ T.length) := Lib.hid (by omega)
 clear hh hT h7 h8 hq hrl hV hat hmE
 go_enter Tryz.func77, Tryz.ntmps77
 go_wp2
 go_quiet (fail)
 go_wp2
 go_quiet (fail)
 go_wp2
 go_quiet (fail)
 go_wp2
 generalize hW1 : w.drewN _ = w1
 have HI : Hid (Drd w1 g (some a) T c at_ false ∧ Only w w1 g) := Lib.hid (by rw [← hW1]; exact ⟨HR.out.drewN _, Only.drewN _ _ _⟩)
 clear hW1 c0 c1 c2 f1 f2 hc
 go_loopw [6, 7] (fun n i wr => ∃ (j i1 vj : Nat), j ≤ m ∧ i = .int .i64 (i1 : Int) ∧ (i1 : Int) = (j : Int) + 1 ∧ n = .int .i64 (vj : Int) ∧ Hid (vj = Blob.val ((T.drop (at_ + 1)).take j)) ∧ Hid (Drd wr g (some a) T c at_ false ∧ Only w wr g)) (fun _ i _ => m + 1 - (intOf i).toNat)
 case atStart => exact ⟨0, 1, 0, Nat.zero_le _, rfl, rfl, rfl, Lib.hid rfl, Lib.hid ⟨HI.out.1.drewN _, HI.out.2.trans (Only.drewN _ _ _)⟩⟩
 case round =>
  obtain ⟨j, i1, vj, hjm, rfl, hi1, rfl, HJ, HW⟩ := hrel
  have hh := HW.out.1.1
  have c0 := cell_of_row wr g 0 _ _ _ hh
  have c1 := cell_of_row wr g 1 _ _ _ hh
  have f1 := frozen_of_row wr g 1 _ _ hh
  simp only [List.getElem?_toArray, List.getElem?_cons_zero, List.getElem?_cons_succ] at c0 c1
  clear hh
  by_cases hlt2 : j < m
  · obtain ⟨b, v2, p, hb, s1, s2, s3, s4, s5⟩ := HM.out j hlt2
    rw [← HJ.out] at s2
    have hi2 : i1 = j + 1 := by omega
    have hcb : wr.cell? (a.add p) = some (.int .u8 (b : Int)) := by
     obtain ⟨a2, e2, _, k2⟩ := HW.out.1.2.2.2.2.2.1.at_ (k := p) (by omega)
     injection e2 with e2
     subst e2
     rw [k2, s4]
    have hil : (i1 : Int) ≤ (m : Int) := by omega
    have w4 : IntKind.i64.wrap ((vj : Int) * 256) = ((vj * 256 : Nat) : Int) := by rw [IntWalk.i64_in _ (by omega)]; omega
    obtain ⟨v3, hv3⟩ : ∃ v3, v3 = vj * 256 := ⟨_, rfl⟩
    rw [← hv3] at w4
    have w5 : IntKind.i64.wrap ((at_ : Int) + (i1 : Int)) = (p : Int) := by rw [IntWalk.i64_in _ (by omega)]; omega
    have w6 : IntKind.i64.wrap ((v3 : Int) + (b : Int)) = (v2 : Int) := by rw [IntWalk.i64_in _ (by omega)]; omega
    have hp : (p : Int) < (T.length : Int) := by omega
    have hb2 : (b : Int) ≤ 255 := by omega
    have HS := Lib.hid (And.intro s1 (And.intro s2 hv3))
    have HI2 := Lib.hid hi2
    clear s1 s2 s3 s4 s5 hv3 hi2 hb hi1
    go_wp2
    go_quiet (fail)
    go_wp2
    go_roundw
    case rel => exact ⟨j + 1, i1 + 1, v2, by omega, by have := HI2.out; subst this; go_num, by have := HI2.out; omega, rfl, Lib.hid HS.out.1, Lib.hid ⟨HW.out.1.drewN _, HW.out.2.trans (Only.drewN _ _ _)⟩⟩
    case measure => have := HI2.out; simp [intOf]; omega
  · obtain rfl : j = m := by omega
    have hil : (j : Int) < (i1 : Int) := by omega
    have hv : vj = V := by rw [HJ.out, HV.out]
    subst hv
    clear HJ HV hi1
    go_wp2
    go_ret
    exact dgot_fin HW.out.1 HW.out.2 (at_ + 1 + j) HL.out _ (by have := HAT.out; omega)

set_option maxHeartbeats 4000000 in
theorem dnum_eight_true (w : World) (g : Nat) (a : Addr) (T : Text) (c at_ x m : Nat) (hr : Drd w g (some a) T c at_ false) (hlt : at_ < T.length) (hc : w.cell? (a.add at_) = some (.int .u8 x)) (hm : (x : Int) % 128 = (m : Int)) (hx : x ≤ 255) (V : Nat) (hV : V = Blob.val ((T.drop (at_ + 1)).take m)) (hV2 : V ≤ 9223372036854775807) (hC : m ≤ T.length - (at_ + 1)) (hneg : 128 ≤ x) (hmE : m = 8) (at1 y : Nat) (hat : at1 = at_ + 1) (hy : w.cell? (a.add at1) = some (.int .u8 y)) (hy0 : 0 < y) (hy8 : y < 128) :
 Calls Tryz.prog 77 #[.pointer (some ⟨g, 0, none⟩)] w (DGot w g (some a) T c (.int .i64 0) (some (.int .i64 (-(V : Int)), T.drop (at_ + 1 + m)))) := by
 have HR := Lib.hid hr
 obtain ⟨hh, h2, h3, h4, h5, hT, h7, h8⟩ := hr
 have c0 := cell_of_row w g 0 _ _ _ hh
 have c1 := cell_of_row w g 1 _ _ _ hh
 have c2 := cell_of_row w g 2 _ _ _ hh
 have f1 := frozen_of_row w g 1 _ _ hh
 have f2 := frozen_of_row w g 2 _ _ hh
 simp only [List.getElem?_toArray, List.getElem?_cons_zero, List.getElem?_cons_succ] at c0 c1 c2
 have hj : (T.length : Int) ≤ 20000 := by omega
 obtain ⟨q, rl, hq, hrl⟩ : ∃ q rl : Nat, T.length = at_ + q ∧ q = rl + 1 := ⟨T.length - at_, T.length - at_ - 1, by omega, by omega⟩
 have : decide ((T.length : Int) ≤ (at_ : Int)) = false := decide_eq_false (by omega)
 have : decide (T.length ≤ at_) = false := decide_eq_false (by omega)
 have : (x : Int) ≤ 255 := by omega
 have : decide ((128 : Int) ≤ (x : Int)) = true := decide_eq_true (by omega)
 have : decide (128 ≤ x) = true := decide_eq_true (by omega)
 have : decide ((8 : Int) < (m : Int)) = false := decide_eq_false (by omega)
 have : decide (8 < m) = false := decide_eq_false (by omega)
 have w1 : IntKind.i64.wrap ((T.length : Int) - (at_ : Int)) = (q : Int) := by rw [IntWalk.i64_in _ (by omega)]; omega
 have w2 : IntKind.i64.wrap ((q : Int) - 1) = (rl : Int) := by rw [IntWalk.i64_in _ (by omega)]; omega
 have : decide ((0 : Int) < (m : Int)) = true := decide_eq_true (by omega)
 have : decide (0 < m) = true := decide_eq_true (by omega)
 have : ((m : Int) == 0) = false := beq_false_of_ne (by omega)
 have : (m == 0) = false := beq_false_of_ne (by omega)
 have : decide (m = 0) = false := decide_eq_false (by omega)
 have : decide ((rl : Int) < (m : Int)) = false := decide_eq_false (by omega)
 have : decide (rl < m) = false := decide_eq_false (by omega)
 have w3 : IntKind.i64.wrap ((at_ : Int) + 1) = (at1 : Int) := by rw [IntWalk.i64_in _ (by omega)]; omega
 have : (at1 : Int) < (T.length : Int) := by omega
 have : ((y : Int) == 0) = false := beq_false_of_ne (by omega)
 have : (y == 0) = false := beq_false_of_ne (by omega)
 have : decide (y = 0) = false := decide_eq_false (by omega)
 have : ((m : Int) == 8) = true := beq_iff_eq.2 (by omega)
 have : (m == 8) = true := beq_iff_eq.2 (by omega)
 have : decide (m = 8) = true := decide_eq_true (by omega)
 have : decide ((128 : Int) ≤ (y : Int)) = false := decide_eq_false (by omega)
 have : decide (128 ≤ y) = false := decide_eq_false (by omega)
 have : decide ((rl : Int) < (8 : Int)) = false := decide_eq_false (by omega)
 have : decide (rl < 8) = false := decide_eq_false (by omega)
 have HAT := Lib.hid hat
 have HM := Lib.hid (val_steps (T := T) hV hV2 (by omega))
 have hVi : (V : Int) ≤ 9223372036854775807 := by omega
 have HV := Lib.hid hV
 have hm8 : (m : Int) ≤ 8 := by omega
 have HT := Lib.hid hT
 have HL : Hid (at_ + 1 + m ≤ T.length) := Lib.hid (by omega)
 clear hh hT h7 h8 hq hrl hV hat hmE
 go_enter Tryz.func77, Tryz.ntmps77
 go_wp2
 go_quiet (fail)
 go_wp2
 go_quiet (fail)
 go_wp2
 go_quiet (fail)
 go_wp2
 generalize hW1 : w.drewN _ = w1
 have HI : Hid (Drd w1 g (some a) T c at_ false ∧ Only w w1 g) := Lib.hid (by rw [← hW1]; exact ⟨HR.out.drewN _, Only.drewN _ _ _⟩)
 clear hW1 c0 c1 c2 f1 f2 hc
 go_loopw [6, 7] (fun n i wr => ∃ (j i1 vj : Nat), j ≤ m ∧ i = .int .i64 (i1 : Int) ∧ (i1 : Int) = (j : Int) + 1 ∧ n = .int .i64 (vj : Int) ∧ Hid (vj = Blob.val ((T.drop (at_ + 1)).take j)) ∧ Hid (Drd wr g (some a) T c at_ false ∧ Only w wr g)) (fun _ i _ => m + 1 - (intOf i).toNat)
 case atStart => exact ⟨0, 1, 0, Nat.zero_le _, rfl, rfl, rfl, Lib.hid rfl, Lib.hid ⟨HI.out.1.drewN _, HI.out.2.trans (Only.drewN _ _ _)⟩⟩
 case round =>
  obtain ⟨j, i1, vj, hjm, rfl, hi1, rfl, HJ, HW⟩ := hrel
  have hh := HW.out.1.1
  have c0 := cell_of_row wr g 0 _ _ _ hh
  have c1 := cell_of_row wr g 1 _ _ _ hh
  have f1 := frozen_of_row wr g 1 _ _ hh
  simp only [List.getElem?_toArray, List.getElem?_cons_zero, List.getElem?_cons_succ] at c0 c1
  clear hh
  by_cases hlt2 : j < m
  · obtain ⟨b, v2, p, hb, s1, s2, s3, s4, s5⟩ := HM.out j hlt2
    rw [← HJ.out] at s2
    have hi2 : i1 = j + 1 := by omega
    have hcb : wr.cell? (a.add p) = some (.int .u8 (b : Int)) := by
     obtain ⟨a2, e2, _, k2⟩ := HW.out.1.2.2.2.2.2.1.at_ (k := p) (by omega)
     injection e2 with e2
     subst e2
     rw [k2, s4]
    have hil : (i1 : Int) ≤ (m : Int) := by omega
    have w4 : IntKind.i64.wrap ((vj : Int) * 256) = ((vj * 256 : Nat) : Int) := by rw [IntWalk.i64_in _ (by omega)]; omega
    obtain ⟨v3, hv3⟩ : ∃ v3, v3 = vj * 256 := ⟨_, rfl⟩
    rw [← hv3] at w4
    have w5 : IntKind.i64.wrap ((at_ : Int) + (i1 : Int)) = (p : Int) := by rw [IntWalk.i64_in _ (by omega)]; omega
    have w6 : IntKind.i64.wrap ((v3 : Int) + (b : Int)) = (v2 : Int) := by rw [IntWalk.i64_in _ (by omega)]; omega
    have hp : (p : Int) < (T.length : Int) := by omega
    have hb2 : (b : Int) ≤ 255 := by omega
    have HS := Lib.hid (And.intro s1 (And.intro s2 hv3))
    have HI2 := Lib.hid hi2
    clear s1 s2 s3 s4 s5 hv3 hi2 hb hi1
    go_wp2
    go_quiet (fail)
    go_wp2
    go_roundw
    case rel => exact ⟨j + 1, i1 + 1, v2, by omega, by have := HI2.out; subst this; go_num, by have := HI2.out; omega, rfl, Lib.hid HS.out.1, Lib.hid ⟨HW.out.1.drewN _, HW.out.2.trans (Only.drewN _ _ _)⟩⟩
    case measure => have := HI2.out; simp [intOf]; omega
  · obtain rfl : j = m := by omega
    have hil : (j : Int) < (i1 : Int) := by omega
    have hv : vj = V := by rw [HJ.out, HV.out]
    subst hv
    clear HJ HV hi1
    go_wp2
    go_ret
    exact dgot_fin HW.out.1 HW.out.2 (at_ + 1 + j) HL.out _ (by have := HAT.out; omega)

end Go.Proofs.YtmjjenemokojjaaGreat
