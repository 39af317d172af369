/- Where a line is supplied: what a treatment hangs on, if the line is wrong. -/
import Derived.Test.YtdpafndejobbjaaPlD
import Derived.Test.YtdpafndejobbjaaDrawB
import Derived.WalkMore
namespace Go.Proofs.Ytdpafndejobbjaa
open Go.RowKit
set_option maxRecDepth 100000
set_option linter.unusedSimpArgs false
set_option linter.unusedVariables false

set_option maxHeartbeats 4000000 in
theorem case_line (home : ByteArray) (d : DocV) (su ca : Int) (fr to_ pl : ByteArray) (am : Int) (gr : Bool) (co : Int) (mi : Bool) (w : World) (hM : MaxL w) (hh : home.size ≤ 1000) (hco : d.country.size ≤ 1000) (hzk : zoneOk home d.country = true) (HG : Hid (∀ W, Calls Try.prog 28 #[.agg #[.int .i64 su, .int .i64 ca, .string fr, .string to_, .string pl, .int .i64 am, .bool gr, .int .i64 co, .bool mi], .bool d.sale] W fun e w1 => e = .returned (.bool false) ∧ Below W.heap.size W w1)) : Calls Try.prog 14 #[.string home, .agg #[.string d.id, .bool d.sale, .bool d.credit, .string d.refers, .int .i64 d.day, .string d.country, .string d.number, .string d.currency, .slice d.linesA d.lines.length d.linesC], .agg #[.int .i64 su, .int .i64 ca, .string fr, .string to_, .string pl, .int .i64 am, .bool gr, .int .i64 co, .bool mi]] w fun e w1 => e = .returned (.tuple #[.agg #[.bool false, .int .i64 0, .bool false, .int .i64 0, .int .i64 0, .int .i64 0, .int .i64 0, .bool false, .bool false], .int .i64 2]) ∧ Below w.heap.size w w1 := by
  have HM := Lib.hid hM
  have HH := Lib.hid hh
  have HCo := Lib.hid hco
  have HV := Lib.hid (zone_yes hzk)
  clear hM hh hco hzk
  have HZ3 : Hid (∀ (y3 y4 y6 : Int) (W : World), CaseS w.heap.size home d su ca fr to_ pl am gr co mi 2 d.sale su (ca == 5) y3 y4 (zn home d.country) y6 false false W → MaxL W → Calls Try.prog 26 #[.bool (movB su), .string fr, .pointer (some ⟨w.heap.size + 1 + 1 + 1 + 1, 0, none⟩), .pointer (some ⟨w.heap.size, 0, none⟩)] W fun e w1 => e = .returned (.int .i64 (0)) ∧ CaseS w.heap.size home d su ca fr to_ pl am gr co mi 2 d.sale su (ca == 5) y3 y4 (zn home d.country) y6 false false w1 ∧ Below w.heap.size W w1) := Lib.hid (fun y3 y4 y6 W hS _ => (zone_bad _ _ _ _ 2 W (by decide) (one_cell hS.he).1).mono (fun e w1 h => ⟨h.1, by rw [← h.2]; exact hS, by rw [← h.2]; exact Below.refl _ _⟩))
  have HZ4 : Hid (∀ (y3 y4 y6 : Int) (W : World), CaseS w.heap.size home d su ca fr to_ pl am gr co mi 2 d.sale su (ca == 5) y3 y4 (zn home d.country) y6 false false W → MaxL W → Calls Try.prog 26 #[.bool (movB su), .string to_, .pointer (some ⟨w.heap.size + 1 + 1 + 1 + 1, 0, none⟩), .pointer (some ⟨w.heap.size, 0, none⟩)] W fun e w1 => e = .returned (.int .i64 (0)) ∧ CaseS w.heap.size home d su ca fr to_ pl am gr co mi 2 d.sale su (ca == 5) y3 y4 (zn home d.country) y6 false false w1 ∧ Below w.heap.size W w1) := Lib.hid (fun y3 y4 y6 W hS _ => (zone_bad _ _ _ _ 2 W (by decide) (one_cell hS.he).1).mono (fun e w1 h => ⟨h.1, by rw [← h.2]; exact hS, by rw [← h.2]; exact Below.refl _ _⟩))
  have HZ6 : Hid (∀ (y3 y4 y6 : Int) (W : World), CaseS w.heap.size home d su ca fr to_ pl am gr co mi 2 d.sale su (ca == 5) y3 y4 (zn home d.country) y6 false false W → MaxL W → Calls Try.prog 26 #[.bool (locB su), .string pl, .pointer (some ⟨w.heap.size + 1 + 1 + 1 + 1, 0, none⟩), .pointer (some ⟨w.heap.size, 0, none⟩)] W fun e w1 => e = .returned (.int .i64 (0)) ∧ CaseS w.heap.size home d su ca fr to_ pl am gr co mi 2 d.sale su (ca == 5) y3 y4 (zn home d.country) y6 false false w1 ∧ Below w.heap.size W w1) := Lib.hid (fun y3 y4 y6 W hS _ => (zone_bad _ _ _ _ 2 W (by decide) (one_cell hS.he).1).mono (fun e w1 h => ⟨h.1, by rw [← h.2]; exact hS, by rw [← h.2]; exact Below.refl _ _⟩))
  go_enter Try.func14, Try.ntmps14
  go_wp2_with (first
    | (go_at_call 26; refine (zoneS_on d.country _ _ (caseS_start w home d su ca fr to_ pl am gr co mi) HH.out HCo.out (HM.out.below (by repeat (first | exact below_alloc _ _ | exact below_same _ | assumption | refine below_more ?_))) HV.out).mono ?_; rintro e w1 ⟨rfl, hS, hb, hz⟩; have HW1 := Lib.hid (Below.trans (show Below w.heap.size w _ by repeat (first | exact below_alloc _ _ | exact below_same _ | assumption | refine below_more ?_)) hb); obtain ⟨g1, g5⟩ := hS.docC; obtain ⟨e0, ef⟩ := one_cell hS.he; obtain ⟨l0, l1, l2, l3, l4, l5, l6, l7, l8⟩ := hS.lineC; obtain ⟨k0, k1, k2, k3, k4, k5, k6, k7, k8⟩ := hS.caseC; have kf := frozen9 hS.hc 5 (by omega); have HS1 := Lib.hid hS; clear hS hb hz)
    | (go_at_call 28; refine (HG.out _).mono ?_; rintro e w2 ⟨rfl, hb⟩; have HSp := Lib.hid ((HS1.out.set5 ((zn home d.country))).on hb); have HWp := Lib.hid (below_then (below_set (b := w.heap.size + 1 + 1 + 1 + 1 + 1) (o := 5) (x := .int .i64 (zn home d.country)) (by omega) HW1.out) hb); clear hb g1 g5 e0 ef l0 l1 l2 l3 l4 l5 l6 l7 l8 k0 k1 k2 k3 k4 k5 k6 k7 k8 kf HS1 HW1; obtain ⟨e0, ef⟩ := one_cell HSp.out.he))
  have HS2 := Lib.hid (HSp.out.setE 2)
  have HW2 := Lib.hid (below_set (b := w.heap.size + 1 + 1 + 1 + 1) (o := 0) (x := .int .i64 2) (by omega) HWp.out)
  clear e0 ef HSp HWp
  generalize hx : World.setCell w2 ⟨w.heap.size + 1 + 1 + 1 + 1, 0, none⟩ (.int .i64 2) = w3 at HS2 HW2 ⊢
  clear hx
  have HSd := Lib.hid (HS2.out.on (below_drew _))
  have HWd := Lib.hid (below_then HW2.out (below_drew _))
  refine wp_region_held_drew (S := fun V => ∃ y3 y4 y6 : Int, CaseS w.heap.size home d su ca fr to_ pl am gr co mi 2 d.sale su (ca == 5) y3 y4 (zn home d.country) y6 false false V) (by kernel_rfl) ⟨_, _, _, HSd.out⟩ ?_
  intro hHeld
  generalize World.drew _ = wd at HSd HWd hHeld ⊢
  (refine takeH (i := 0) (v := ?_) rfl (by kernel_rfl) (by kernel_rfl) (by kernel_rfl) (fun _ _ _ h => h) (Or.inl ⟨by rfl, ?_⟩) (by assumption) ?_; rotate_left; (focus ((intro wS hSw); (try dsimp only at hSw); (obtain ⟨y3, y4, y6, hq⟩ := hSw; obtain ⟨s0, s1, s2, s3, s4, s5, s6, s7, s8⟩ := hq.lineC); go_simp; (try with_reducible rfl); done)); (try simp only [Act.put, List.setIfInBounds_toArray, List.set_cons_zero, List.set_cons_succ]))
  (refine takeH (i := 1) (v := ?_) rfl (by kernel_rfl) (by kernel_rfl) (by kernel_rfl) (fun _ _ _ h => h) (Or.inl ⟨by rfl, ?_⟩) (by assumption) ?_; rotate_left; (focus ((intro wS hSw); (try dsimp only at hSw); (obtain ⟨y3, y4, y6, hq⟩ := hSw; obtain ⟨s0, s1, s2, s3, s4, s5, s6, s7, s8⟩ := hq.lineC); go_simp; (try with_reducible rfl); done)); (try simp only [Act.put, List.setIfInBounds_toArray, List.set_cons_zero, List.set_cons_succ]))
  (refine takeH (i := 3) (v := ?_) rfl (by kernel_rfl) (by kernel_rfl) (by kernel_rfl) (fun _ _ _ h => h) (Or.inl ⟨by rfl, ?_⟩) (by assumption) ?_; rotate_left; (focus ((intro wS hSw); (try dsimp only at hSw); (obtain ⟨y3, y4, y6, hq⟩ := hSw; obtain ⟨s0, s1, s2, s3, s4, s5, s6, s7, s8⟩ := hq.lineC); go_simp; (try with_reducible rfl); done)); (try simp only [Act.put, List.setIfInBounds_toArray, List.set_cons_zero, List.set_cons_succ]))
  (refine takeH (i := 4) (v := ?_) rfl (by kernel_rfl) (by kernel_rfl) (by kernel_rfl) (fun _ _ _ h => h) (Or.inl ⟨by rfl, ?_⟩) (by assumption) ?_; rotate_left; (focus ((intro wS hSw); (try dsimp only at hSw); (obtain ⟨y3, y4, y6, hq⟩ := hSw; obtain ⟨s0, s1, s2, s3, s4, s5, s6, s7, s8⟩ := hq.lineC); go_simp; (try with_reducible rfl); done)); (try simp only [Act.put, List.setIfInBounds_toArray, List.set_cons_zero, List.set_cons_succ]))
  (refine takeH (i := 6) (v := ?_) rfl (by kernel_rfl) (by kernel_rfl) (by kernel_rfl) (fun _ _ _ h => h) (Or.inl ⟨by rfl, ?_⟩) (by assumption) ?_; rotate_left; (focus ((intro wS hSw); (try dsimp only at hSw); (obtain ⟨y3, y4, y6, hq⟩ := hSw; obtain ⟨s0, s1, s2, s3, s4, s5, s6, s7, s8⟩ := hq.lineC); go_simp; (try with_reducible rfl); done)); (try simp only [Act.put, List.setIfInBounds_toArray, List.set_cons_zero, List.set_cons_succ]))
  (refine takeH (i := 7) (v := ?_) rfl (by kernel_rfl) (by kernel_rfl) (by kernel_rfl) (fun _ _ _ h => h) (Or.inl ⟨by rfl, ?_⟩) (by assumption) ?_; rotate_left; (focus ((intro wS hSw); (try dsimp only at hSw); (obtain ⟨y3, y4, y6, hq⟩ := hSw; obtain ⟨s0, s1, s2, s3, s4, s5, s6, s7, s8⟩ := hq.lineC); go_simp; (try with_reducible rfl); done)); (try simp only [Act.put, List.setIfInBounds_toArray, List.set_cons_zero, List.set_cons_succ]))
  (refine takeH (i := 9) (v := ?_) rfl (by kernel_rfl) (by kernel_rfl) (by kernel_rfl) (fun _ _ _ h => h) (Or.inl ⟨by rfl, ?_⟩) (by assumption) ?_; rotate_left; (focus ((intro wS hSw); (try dsimp only at hSw); (obtain ⟨y3, y4, y6, hq⟩ := hSw; obtain ⟨s0, s1, s2, s3, s4, s5, s6, s7, s8⟩ := hq.lineC); go_simp; (try with_reducible rfl); done)); (try simp only [Act.put, List.setIfInBounds_toArray, List.set_cons_zero, List.set_cons_succ]))
  (refine takeH (i := 10) (v := ?_) rfl (by kernel_rfl) (by kernel_rfl) (by kernel_rfl) (fun _ _ _ h => h) (Or.inl ⟨by rfl, ?_⟩) (by assumption) ?_; rotate_left; (focus ((intro wS hSw); (try dsimp only at hSw); (obtain ⟨y3, y4, y6, hq⟩ := hSw; obtain ⟨s0, s1, s2, s3, s4, s5, s6, s7, s8⟩ := hq.lineC); go_simp; (try with_reducible rfl); done)); (try simp only [Act.put, List.setIfInBounds_toArray, List.set_cons_zero, List.set_cons_succ]))
  refine aloneH (i := 2) rfl (by kernel_rfl) (fun K hK => ?_)
  rw [if_pos (by rfl)]
  go_simp; ((refine (code_moved _ _ _ _ _ _ _ _ _ _).mono ?_); (rintro e w1 ⟨rfl, hw⟩); have hbb : Below wd.heap.size wd w1 := (by rw [hw]; exact below_alloc _ _); clear hw; have HS1 := Lib.hid (HSd.out.on hbb); have HW1 := Lib.hid (below_then HWd.out hbb); clear hbb; (try go_simp))
  refine hK.out _ _ (⟨_, _, _, HS1.out⟩) (fun hNew => ?_)
  clear hK K hHeld; (have hHeld := hNew); clear hNew; (try simp only [Act.put, List.setIfInBounds_toArray, List.set_cons_zero, List.set_cons_succ])
  refine aloneH (i := 5) rfl (by kernel_rfl) (fun K hK => ?_)
  rw [if_pos (by rfl)]
  go_simp; ((refine (HZ3.out _ _ _ _ HS1.out (HM.out.below HW1.out)).mono ?_); (rintro e w2 ⟨rfl, hS, hb⟩); have HS2 := Lib.hid hS; have HW2 := Lib.hid (Below.trans HW1.out hb); clear hS hb; (try go_simp))
  refine hK.out _ _ (⟨_, _, _, HS2.out⟩) (fun hNew => ?_)
  clear hK K hHeld; (have hHeld := hNew); clear hNew; (try simp only [Act.put, List.setIfInBounds_toArray, List.set_cons_zero, List.set_cons_succ])
  (refine takeH (i := 12) (v := ?_) rfl (by kernel_rfl) (by kernel_rfl) (by kernel_rfl) (fun _ _ _ h => h) (Or.inl ⟨by rfl, ?_⟩) (by assumption) ?_; rotate_left; (focus ((intro wS hSw); (try dsimp only at hSw); (obtain ⟨y3, y4, y6, hq⟩ := hSw; obtain ⟨s0, s1, s2, s3, s4, s5, s6, s7, s8⟩ := hq.lineC); go_simp; (try with_reducible rfl); done)); (try simp only [Act.put, List.setIfInBounds_toArray, List.set_cons_zero, List.set_cons_succ]))
  refine aloneH (i := 8) rfl (by kernel_rfl) (fun K hK => ?_)
  rw [if_pos (by rfl)]
  go_simp; ((refine (code_moved _ _ _ _ _ _ _ _ _ _).mono ?_); (rintro e w3 ⟨rfl, hw⟩); have hbb : Below w2.heap.size w2 w3 := (by rw [hw]; exact below_alloc _ _); clear hw; have HS3 := Lib.hid (HS2.out.on hbb); have HW3 := Lib.hid (below_then HW2.out hbb); clear hbb; (try go_simp))
  refine hK.out _ _ (⟨_, _, _, HS3.out⟩) (fun hNew => ?_)
  clear hK K hHeld; (have hHeld := hNew); clear hNew; (try simp only [Act.put, List.setIfInBounds_toArray, List.set_cons_zero, List.set_cons_succ])
  refine aloneH (i := 11) rfl (by kernel_rfl) (fun K hK => ?_)
  rw [if_pos (by rfl)]
  go_simp; ((refine (HZ4.out _ _ _ _ HS3.out (HM.out.below HW3.out)).mono ?_); (rintro e w4 ⟨rfl, hS, hb⟩); have HS4 := Lib.hid hS; have HW4 := Lib.hid (Below.trans HW3.out hb); clear hS hb; (try go_simp))
  refine hK.out _ _ (⟨_, _, _, HS4.out⟩) (fun hNew => ?_)
  clear hK K hHeld; (have hHeld := hNew); clear hNew; (try simp only [Act.put, List.setIfInBounds_toArray, List.set_cons_zero, List.set_cons_succ])
  refine aloneH (i := 13) rfl (by kernel_rfl) (fun K hK => ?_)
  rw [if_pos (by rfl)]
  obtain ⟨k0, k1, k2, k3, k4, k5, k6, k7, k8⟩ := HS4.out.caseC
  have kf := frozen9 HS4.out.hc 3 (by omega)
  go_simp
  have HS5 := Lib.hid (HS4.out.set3 0)
  have HW5 := Lib.hid (below_set (b := w.heap.size + 1 + 1 + 1 + 1 + 1) (o := 3) (x := .int .i64 (0)) (by omega) HW4.out)
  clear k0 k1 k2 k3 k4 k5 k6 k7 k8 kf
  generalize hx : World.setCell w4 ⟨w.heap.size + 1 + 1 + 1 + 1 + 1, 3, none⟩ (.int .i64 0) = w5 at HS5 HW5 ⊢
  clear hx
  refine hK.out _ _ (⟨_, _, _, HS5.out⟩) (fun hNew => ?_)
  clear hK K hHeld; (have hHeld := hNew); clear hNew; (try simp only [Act.put])
  (refine takeH (i := 14) (v := ?_) rfl (by kernel_rfl) (by kernel_rfl) (by kernel_rfl) (fun _ _ _ h => h) (Or.inl ⟨by rfl, ?_⟩) (by assumption) ?_; rotate_left; (focus ((intro wS hSw); (try dsimp only at hSw); (obtain ⟨y3, y4, y6, hq⟩ := hSw; obtain ⟨s0, s1, s2, s3, s4, s5, s6, s7, s8⟩ := hq.lineC); go_simp; (try with_reducible rfl); done)); (try simp only [Act.put, List.setIfInBounds_toArray, List.set_cons_zero, List.set_cons_succ]))
  refine aloneH (i := 15) rfl (by kernel_rfl) (fun K hK => ?_)
  rw [if_pos (by rfl)]
  obtain ⟨k0, k1, k2, k3, k4, k5, k6, k7, k8⟩ := HS5.out.caseC
  have kf := frozen9 HS5.out.hc 4 (by omega)
  go_simp
  have HS6 := Lib.hid (HS5.out.set4 0)
  have HW6 := Lib.hid (below_set (b := w.heap.size + 1 + 1 + 1 + 1 + 1) (o := 4) (x := .int .i64 (0)) (by omega) HW5.out)
  clear k0 k1 k2 k3 k4 k5 k6 k7 k8 kf
  generalize hx : World.setCell w5 ⟨w.heap.size + 1 + 1 + 1 + 1 + 1, 4, none⟩ (.int .i64 0) = w6 at HS6 HW6 ⊢
  clear hx
  refine hK.out _ _ (⟨_, _, _, HS6.out⟩) (fun hNew => ?_)
  clear hK K hHeld; (have hHeld := hNew); clear hNew; (try simp only [Act.put])
  refine wpAnyH_done (by kernel_rfl) ?_ _
  clear hHeld HSd HWd
  have HSx := Lib.hid HS6.out
  have HWx := Lib.hid HW6.out
  clear HS1 HW1 HS2 HW2 HS3 HW3 HS4 HW4 HS5 HW5 HS6 HW6
  go_wp2
  have HSd := Lib.hid (HSx.out.on (below_drew _))
  have HWd := Lib.hid (below_then HWx.out (below_drew _))
  refine wp_region_held_drew (S := fun V => ∃ y3 y4 y6 : Int, CaseS w.heap.size home d su ca fr to_ pl am gr co mi 2 d.sale su (ca == 5) y3 y4 (zn home d.country) y6 false false V) (by kernel_rfl) ⟨_, _, _, HSd.out⟩ ?_
  intro hHeld
  generalize World.drew _ = wd at HSd HWd hHeld ⊢
  (refine takeH (i := 0) (v := ?_) rfl (by kernel_rfl) (by kernel_rfl) (by kernel_rfl) (fun _ _ _ h => h) (Or.inl ⟨by rfl, ?_⟩) (by assumption) ?_; rotate_left; (focus ((intro wS hSw); (try dsimp only at hSw); (obtain ⟨y3, y4, y6, hq⟩ := hSw; obtain ⟨s0, s1, s2, s3, s4, s5, s6, s7, s8⟩ := hq.lineC); go_simp; (try with_reducible rfl); done)); (try simp only [Act.put, List.setIfInBounds_toArray, List.set_cons_zero, List.set_cons_succ]))
  (refine takeH (i := 1) (v := ?_) rfl (by kernel_rfl) (by kernel_rfl) (by kernel_rfl) (fun _ _ _ h => h) (Or.inl ⟨by rfl, ?_⟩) (by assumption) ?_; rotate_left; (focus ((intro wS hSw); (try dsimp only at hSw); (obtain ⟨y3, y4, y6, hq⟩ := hSw; obtain ⟨s0, s1, s2, s3, s4, s5, s6, s7, s8⟩ := hq.lineC); go_simp; (try with_reducible rfl); done)); (try simp only [Act.put, List.setIfInBounds_toArray, List.set_cons_zero, List.set_cons_succ]))
  (refine takeH (i := 3) (v := ?_) rfl (by kernel_rfl) (by kernel_rfl) (by kernel_rfl) (fun _ _ _ h => h) (Or.inl ⟨by rfl, ?_⟩) (by assumption) ?_; rotate_left; (focus ((intro wS hSw); (try dsimp only at hSw); (obtain ⟨y3, y4, y6, hq⟩ := hSw; obtain ⟨s0, s1, s2, s3, s4, s5, s6, s7, s8⟩ := hq.lineC); go_simp; (try with_reducible rfl); done)); (try simp only [Act.put, List.setIfInBounds_toArray, List.set_cons_zero, List.set_cons_succ]))
  (refine takeH (i := 4) (v := ?_) rfl (by kernel_rfl) (by kernel_rfl) (by kernel_rfl) (fun _ _ _ h => h) (Or.inl ⟨by rfl, ?_⟩) (by assumption) ?_; rotate_left; (focus ((intro wS hSw); (try dsimp only at hSw); (obtain ⟨y3, y4, y6, hq⟩ := hSw; obtain ⟨s0, s1, s2, s3, s4, s5, s6, s7, s8⟩ := hq.lineC); go_simp; (try with_reducible rfl); done)); (try simp only [Act.put, List.setIfInBounds_toArray, List.set_cons_zero, List.set_cons_succ]))
  refine aloneH (i := 2) rfl (by kernel_rfl) (fun K hK => ?_)
  rw [if_pos (by rfl)]
  go_simp; ((refine (code_local _ _ _ _ _ _ _ _ _ _).mono ?_); (rintro e w1 ⟨rfl, hw⟩); have hbb : Below wd.heap.size wd w1 := (by rw [hw]; exact below_alloc _ _); clear hw; have HS1 := Lib.hid (HSd.out.on hbb); have HW1 := Lib.hid (below_then HWd.out hbb); clear hbb; (try go_simp))
  refine hK.out _ _ (⟨_, _, _, HS1.out⟩) (fun hNew => ?_)
  clear hK K hHeld; (have hHeld := hNew); clear hNew; (try simp only [Act.put, List.setIfInBounds_toArray, List.set_cons_zero, List.set_cons_succ])
  refine aloneH (i := 5) rfl (by kernel_rfl) (fun K hK => ?_)
  rw [if_pos (by rfl)]
  go_simp; ((refine (HZ6.out _ _ _ _ HS1.out (HM.out.below HW1.out)).mono ?_); (rintro e w2 ⟨rfl, hS, hb⟩); have HS2 := Lib.hid hS; have HW2 := Lib.hid (Below.trans HW1.out hb); clear hS hb; (try go_simp))
  refine hK.out _ _ (⟨_, _, _, HS2.out⟩) (fun hNew => ?_)
  clear hK K hHeld; (have hHeld := hNew); clear hNew; (try simp only [Act.put, List.setIfInBounds_toArray, List.set_cons_zero, List.set_cons_succ])
  (refine takeH (i := 6) (v := ?_) rfl (by kernel_rfl) (by kernel_rfl) (by kernel_rfl) (fun _ _ _ h => h) (Or.inl ⟨by rfl, ?_⟩) (by assumption) ?_; rotate_left; (focus ((intro wS hSw); (try dsimp only at hSw); (obtain ⟨y3, y4, y6, hq⟩ := hSw; obtain ⟨s0, s1, s2, s3, s4, s5, s6, s7, s8⟩ := hq.lineC); go_simp; (try with_reducible rfl); done)); (try simp only [Act.put, List.setIfInBounds_toArray, List.set_cons_zero, List.set_cons_succ]))
  refine aloneH (i := 7) rfl (by kernel_rfl) (fun K hK => ?_)
  rw [if_pos (by rfl)]
  obtain ⟨k0, k1, k2, k3, k4, k5, k6, k7, k8⟩ := HS2.out.caseC
  have kf := frozen9 HS2.out.hc 6 (by omega)
  go_simp
  have HS3 := Lib.hid (HS2.out.set6 0)
  have HW3 := Lib.hid (below_set (b := w.heap.size + 1 + 1 + 1 + 1 + 1) (o := 6) (x := .int .i64 (0)) (by omega) HW2.out)
  clear k0 k1 k2 k3 k4 k5 k6 k7 k8 kf
  generalize hx : World.setCell w2 ⟨w.heap.size + 1 + 1 + 1 + 1 + 1, 6, none⟩ (.int .i64 0) = w3 at HS3 HW3 ⊢
  clear hx
  refine hK.out _ _ (⟨_, _, _, HS3.out⟩) (fun hNew => ?_)
  clear hK K hHeld; (have hHeld := hNew); clear hNew; (try simp only [Act.put])
  refine wpAnyH_done (by kernel_rfl) ?_ _
  clear hHeld HSd HWd HSx HWx
  obtain ⟨e0, ef⟩ := one_cell HS3.out.he
  go_wp2
  have HSd := Lib.hid (HS3.out.on (below_drew _))
  have HWd := Lib.hid (below_then HW3.out (below_drew _))
  refine wp_region_held_drew (S := fun V => V.cell? ⟨w.heap.size + 1 + 1 + 1 + 1, 0, none⟩ = some (.int .i64 2)) (by kernel_rfl) (one_cell HSd.out.he).1 ?_
  intro hHeld
  clear e0 ef
  generalize World.drew _ = wd at HSd HWd hHeld ⊢
  (refine takeH (i := 0) (v := ?_) rfl (by kernel_rfl) (by kernel_rfl) (by kernel_rfl) (fun _ _ _ h => h) (Or.inl ⟨by rfl, ?_⟩) (by assumption) ?_; rotate_left; (focus ((intro wS hSw); (try dsimp only at hSw); have s0 := hSw; go_simp; (try with_reducible rfl); done)); (try simp only [Act.put, List.setIfInBounds_toArray, List.set_cons_zero, List.set_cons_succ]))
  (refine takeH (i := 1) (v := ?_) rfl (by kernel_rfl) (by kernel_rfl) (by kernel_rfl) (fun _ _ _ h => h) (Or.inl ⟨by rfl, ?_⟩) (by assumption) ?_; rotate_left; (focus ((intro wS hSw); (try dsimp only at hSw); have s0 := hSw; go_simp; (try with_reducible rfl); done)); (try simp only [Act.put, List.setIfInBounds_toArray, List.set_cons_zero, List.set_cons_succ]))
  refine aloneH (i := 2) rfl (by kernel_rfl) (fun K hK => ?_)
  rw [if_pos (by rfl)]
  obtain ⟨k0, k1, k2, k3, k4, k5, k6, k7, k8⟩ := HSd.out.resC
  have kf := fun i hi => frozen9 HSd.out.hr i hi
  have kf0 := kf 0 (by omega)
  have kf1 := kf 1 (by omega)
  have kf2 := kf 2 (by omega)
  have kf3 := kf 3 (by omega)
  have kf4 := kf 4 (by omega)
  have kf5 := kf 5 (by omega)
  have kf6 := kf 6 (by omega)
  have kf7 := kf 7 (by omega)
  have kf8 := kf 8 (by omega)
  clear kf
  go_simp
  have HP9 := Lib.hid (put9_heap HSd.out.hr (.bool false) (.int .i64 0) (.bool false) (.int .i64 0) (.int .i64 0) (.int .i64 0) (.int .i64 0) (.bool false) (.bool false))
  have HE9 := Lib.hid ((put9_other wd (w.heap.size + 1 + 1 + 1) (.bool false) (.int .i64 0) (.bool false) (.int .i64 0) (.int .i64 0) (.int .i64 0) (.int .i64 0) (.bool false) (.bool false) (w.heap.size + 1 + 1 + 1 + 1) (by omega)).trans HSd.out.he)
  have HB9 := Lib.hid (put9_below (g := w.heap.size + 1 + 1 + 1) (by omega) HWd.out (.bool false) (.int .i64 0) (.bool false) (.int .i64 0) (.int .i64 0) (.int .i64 0) (.int .i64 0) (.bool false) (.bool false))
  unfold put9 at HP9 HE9 HB9
  clear k0 k1 k2 k3 k4 k5 k6 k7 k8 kf0 kf1 kf2 kf3 kf4 kf5 kf6 kf7 kf8
  generalize hx : (((((((((wd.setCell ⟨w.heap.size + 1 + 1 + 1, 0, none⟩ (.bool false)).setCell ⟨w.heap.size + 1 + 1 + 1, 1, none⟩ (.int .i64 0)).setCell ⟨w.heap.size + 1 + 1 + 1, 2, none⟩ (.bool false)).setCell ⟨w.heap.size + 1 + 1 + 1, 3, none⟩ (.int .i64 0)).setCell ⟨w.heap.size + 1 + 1 + 1, 4, none⟩ (.int .i64 0)).setCell ⟨w.heap.size + 1 + 1 + 1, 5, none⟩ (.int .i64 0)).setCell ⟨w.heap.size + 1 + 1 + 1, 6, none⟩ (.int .i64 0)).setCell ⟨w.heap.size + 1 + 1 + 1, 7, none⟩ (.bool false)).setCell ⟨w.heap.size + 1 + 1 + 1, 8, none⟩ (.bool false)) = w1 at HP9 HE9 HB9 ⊢
  clear hx
  refine hK.out _ _ ((one_cell HE9.out).1) (fun hNew => ?_)
  clear hK K hHeld; (have hHeld := hNew); clear hNew; (try simp only [Act.put])
  (refine takeH (i := 3) (v := ?_) rfl (by kernel_rfl) (by kernel_rfl) (by kernel_rfl) (fun _ _ _ h => h) (Or.inl ⟨by rfl, ?_⟩) (by assumption) ?_; rotate_left; (focus ((intro wS hSw); (try dsimp only at hSw); have s0 := hSw; go_simp; (try with_reducible rfl); done)); (try simp only [Act.put, List.setIfInBounds_toArray, List.set_cons_zero, List.set_cons_succ]))
  refine wpAnyH_done (by kernel_rfl) ?_ _
  clear hHeld
  obtain ⟨k0, k1, k2, k3, k4, k5, k6, k7, k8⟩ := cellsLineV HP9.out
  go_wp2
  exact bodyPost_ret (v := .tuple #[.agg #[.bool false, .int .i64 0, .bool false, .int .i64 0, .int .i64 0, .int .i64 0, .int .i64 0, .bool false, .bool false], .int .i64 2]) (by simp [results, Try.results14, go_sem, k0, k1, k2, k3, k4, k5, k6, k7, k8]) rfl ⟨rfl, HB9.out⟩
end Go.Proofs.Ytdpafndejobbjaa
