/- Where a line is supplied, as the document says it: what a treatment hangs on. -/
import Derived.Test.YtdpafndejobbjaaPlH
namespace Go.Proofs.Ytdpafndejobbjaa
open Go.RowKit
set_option maxRecDepth 100000
set_option linter.unusedSimpArgs false
set_option linter.unusedVariables false

set_option maxHeartbeats 4000000 in
theorem ref_case_mov (home : ByteArray) (d : DocV) (su ca : Int) (fr to_ pl : ByteArray) (am : Int) (gr : Bool) (co : Int) (mi : Bool) (w : World) (HWr : Hid (∀ W, Calls Try.prog 29 #[.string home, .agg #[.string d.id, .bool d.sale, .bool d.credit, .string d.refers, .int .i64 d.day, .string d.country, .string d.number, .string d.currency, .slice d.linesA d.lines.length d.linesC], .agg #[.int .i64 su, .int .i64 ca, .string fr, .string to_, .string pl, .int .i64 am, .bool gr, .int .i64 co, .bool mi]] W fun e w1 => e = .returned (.int .i64 0) ∧ Below W.heap.size W w1)) (HZ5 : Hid (∀ W, Calls Try.prog 30 #[.string home, .string d.country] W fun e w1 => e = .returned (.int .i64 (zn home d.country)) ∧ Below W.heap.size W w1)) (HZ3 : Hid (∀ W, Calls Try.prog 30 #[.string home, .string fr] W fun e w1 => e = .returned (.int .i64 (zn home fr)) ∧ Below W.heap.size W w1)) (HZ4 : Hid (∀ W, Calls Try.prog 30 #[.string home, .string to_] W fun e w1 => e = .returned (.int .i64 (zn home to_)) ∧ Below W.heap.size W w1)) (hmv : movB su = true) (hlc : locB su = false) : Calls Try.prog 15 #[.string home, .agg #[.string d.id, .bool d.sale, .bool d.credit, .string d.refers, .int .i64 d.day, .string d.country, .string d.number, .string d.currency, .slice d.linesA d.lines.length d.linesC], .agg #[.int .i64 su, .int .i64 ca, .string fr, .string to_, .string pl, .int .i64 am, .bool gr, .int .i64 co, .bool mi]] w fun e w1 => e = .returned (.tuple #[.agg #[.bool d.sale, .int .i64 su, .bool (ca == 5), .int .i64 (zn home fr), .int .i64 (zn home to_), .int .i64 (zn home d.country), .int .i64 0, .bool false, .bool false], .int .i64 0]) ∧ Below w.heap.size w w1 := by
  have HMv : Hid (∀ W, Calls Try.prog 17 #[.agg #[.int .i64 su, .int .i64 ca, .string fr, .string to_, .string pl, .int .i64 am, .bool gr, .int .i64 co, .bool mi]] W fun e w1 => e = .returned (.bool true) ∧ Below W.heap.size W w1) := Lib.hid (fun W => (ref_moved su ca fr to_ pl am gr co mi W).mono (fun e w1 h => ⟨by rw [h.1, hmv], by rw [h.2]; exact below_alloc _ _⟩))
  have HLc : Hid (∀ W, Calls Try.prog 19 #[.agg #[.int .i64 su, .int .i64 ca, .string fr, .string to_, .string pl, .int .i64 am, .bool gr, .int .i64 co, .bool mi]] W fun e w1 => e = .returned (.bool false) ∧ Below W.heap.size W w1) := Lib.hid (fun W => (ref_local su ca fr to_ pl am gr co mi W).mono (fun e w1 h => ⟨by rw [h.1, hlc], by rw [h.2]; exact below_alloc _ _⟩))
  clear hmv hlc
  go_enter Try.func15, Try.ntmps15
  go_wp2_with ((go_at_call 29; refine (HWr.out _).mono ?_; rintro e w1 ⟨rfl, hb⟩; have HS1 := Lib.hid ((refS_start w d su ca fr to_ pl am gr co mi).on hb); have HW1 := Lib.hid (Below.trans (show Below w.heap.size w _ by repeat (first | exact below_alloc _ _ | exact below_same _ | assumption | refine below_more ?_)) (hb.mono (show w.heap.size ≤ _ by simp; try omega))); clear hb; obtain ⟨d0, d1, d2, d3, d4, d5, d6, d7, d8⟩ := HS1.out.docC; obtain ⟨l0, l1, l2, l3, l4, l5, l6, l7, l8⟩ := HS1.out.lineC))
  have HSd := Lib.hid (HS1.out.on (below_drew _))
  have HWd := Lib.hid (below_then HW1.out (below_drew _))
  refine wp_region_held_drew (S := fun V => RefS w.heap.size d su ca fr to_ pl am gr co mi V) (by kernel_rfl) HSd.out ?_
  intro hHeld
  clear HS1 HW1 d0 d1 d2 d3 d4 d5 d6 d7 d8 l0 l1 l2 l3 l4 l5 l6 l7 l8
  generalize World.drew _ = wd at HSd HWd hHeld ⊢
  (refine takeH (i := 0) (v := ?_) rfl (by kernel_rfl) (by kernel_rfl) (by kernel_rfl) (fun _ _ _ h => h) (Or.inl ⟨by rfl, ?_⟩) (by assumption) ?_; rotate_left; (focus ((intro wS hSw); (try dsimp only at hSw); (obtain ⟨s0, s1, s2, s3, s4, s5, s6, s7, s8⟩ := hSw.docC; obtain ⟨q0, q1, q2, q3, q4, q5, q6, q7, q8⟩ := hSw.lineC); go_simp; (try with_reducible rfl); done)); (try simp only [Act.put, List.setIfInBounds_toArray, List.set_cons_zero, List.set_cons_succ]))
  (refine takeH (i := 1) (v := ?_) rfl (by kernel_rfl) (by kernel_rfl) (by kernel_rfl) (fun _ _ _ h => h) (Or.inl ⟨by rfl, ?_⟩) (by assumption) ?_; rotate_left; (focus ((intro wS hSw); (try dsimp only at hSw); (obtain ⟨s0, s1, s2, s3, s4, s5, s6, s7, s8⟩ := hSw.docC; obtain ⟨q0, q1, q2, q3, q4, q5, q6, q7, q8⟩ := hSw.lineC); go_simp; (try with_reducible rfl); done)); (try simp only [Act.put, List.setIfInBounds_toArray, List.set_cons_zero, List.set_cons_succ]))
  (refine takeH (i := 2) (v := ?_) rfl (by kernel_rfl) (by kernel_rfl) (by kernel_rfl) (fun _ _ _ h => h) (Or.inl ⟨by rfl, ?_⟩) (by assumption) ?_; rotate_left; (focus ((intro wS hSw); (try dsimp only at hSw); (obtain ⟨s0, s1, s2, s3, s4, s5, s6, s7, s8⟩ := hSw.docC; obtain ⟨q0, q1, q2, q3, q4, q5, q6, q7, q8⟩ := hSw.lineC); go_simp; (try with_reducible rfl); done)); (try simp only [Act.put, List.setIfInBounds_toArray, List.set_cons_zero, List.set_cons_succ]))
  (refine takeH (i := 3) (v := ?_) rfl (by kernel_rfl) (by kernel_rfl) (by kernel_rfl) (fun _ _ _ h => h) (Or.inl ⟨by rfl, ?_⟩) (by assumption) ?_; rotate_left; (focus ((intro wS hSw); (try dsimp only at hSw); (obtain ⟨s0, s1, s2, s3, s4, s5, s6, s7, s8⟩ := hSw.docC; obtain ⟨q0, q1, q2, q3, q4, q5, q6, q7, q8⟩ := hSw.lineC); go_simp; (try with_reducible rfl); done)); (try simp only [Act.put, List.setIfInBounds_toArray, List.set_cons_zero, List.set_cons_succ]))
  (refine takeH (i := 4) (v := ?_) rfl (by kernel_rfl) (by kernel_rfl) (by kernel_rfl) (fun _ _ _ h => h) (Or.inl ⟨by rfl, ?_⟩) (by assumption) ?_; rotate_left; (focus ((intro wS hSw); (try dsimp only at hSw); (obtain ⟨s0, s1, s2, s3, s4, s5, s6, s7, s8⟩ := hSw.docC; obtain ⟨q0, q1, q2, q3, q4, q5, q6, q7, q8⟩ := hSw.lineC); go_simp; (try with_reducible rfl); done)); (try simp only [Act.put, List.setIfInBounds_toArray, List.set_cons_zero, List.set_cons_succ]))
  (refine takeH (i := 5) (v := ?_) rfl (by kernel_rfl) (by kernel_rfl) (by kernel_rfl) (fun _ _ _ h => h) (Or.inl ⟨by rfl, ?_⟩) (by assumption) ?_; rotate_left; (focus ((intro wS hSw); (try dsimp only at hSw); (obtain ⟨s0, s1, s2, s3, s4, s5, s6, s7, s8⟩ := hSw.docC; obtain ⟨q0, q1, q2, q3, q4, q5, q6, q7, q8⟩ := hSw.lineC); go_simp; (try with_reducible rfl); done)); (try simp only [Act.put, List.setIfInBounds_toArray, List.set_cons_zero, List.set_cons_succ]))
  (refine takeH (i := 6) (v := ?_) rfl (by kernel_rfl) (by kernel_rfl) (by kernel_rfl) (fun _ _ _ h => h) (Or.inl ⟨by rfl, ?_⟩) (by assumption) ?_; rotate_left; (focus ((intro wS hSw); (try dsimp only at hSw); (obtain ⟨s0, s1, s2, s3, s4, s5, s6, s7, s8⟩ := hSw.docC; obtain ⟨q0, q1, q2, q3, q4, q5, q6, q7, q8⟩ := hSw.lineC); go_simp; (try with_reducible rfl); done)); (try simp only [Act.put, List.setIfInBounds_toArray, List.set_cons_zero, List.set_cons_succ]))
  (refine takeH (i := 7) (v := ?_) rfl (by kernel_rfl) (by kernel_rfl) (by kernel_rfl) (fun _ _ _ h => h) (Or.inl ⟨by rfl, ?_⟩) (by assumption) ?_; rotate_left; (focus ((intro wS hSw); (try dsimp only at hSw); (obtain ⟨s0, s1, s2, s3, s4, s5, s6, s7, s8⟩ := hSw.docC; obtain ⟨q0, q1, q2, q3, q4, q5, q6, q7, q8⟩ := hSw.lineC); go_simp; (try with_reducible rfl); done)); (try simp only [Act.put, List.setIfInBounds_toArray, List.set_cons_zero, List.set_cons_succ]))
  (refine takeH (i := 8) (v := ?_) rfl (by kernel_rfl) (by kernel_rfl) (by kernel_rfl) (fun _ _ _ h => h) (Or.inl ⟨by rfl, ?_⟩) (by assumption) ?_; rotate_left; (focus ((intro wS hSw); (try dsimp only at hSw); (obtain ⟨s0, s1, s2, s3, s4, s5, s6, s7, s8⟩ := hSw.docC; obtain ⟨q0, q1, q2, q3, q4, q5, q6, q7, q8⟩ := hSw.lineC); go_simp; (try with_reducible rfl); done)); (try simp only [Act.put, List.setIfInBounds_toArray, List.set_cons_zero, List.set_cons_succ]))
  (refine takeH (i := 9) (v := ?_) rfl (by kernel_rfl) (by kernel_rfl) (by kernel_rfl) (fun _ _ _ h => h) (Or.inl ⟨by rfl, ?_⟩) (by assumption) ?_; rotate_left; (focus ((intro wS hSw); (try dsimp only at hSw); (obtain ⟨s0, s1, s2, s3, s4, s5, s6, s7, s8⟩ := hSw.docC; obtain ⟨q0, q1, q2, q3, q4, q5, q6, q7, q8⟩ := hSw.lineC); go_simp; (try with_reducible rfl); done)); (try simp only [Act.put, List.setIfInBounds_toArray, List.set_cons_zero, List.set_cons_succ]))
  refine twoH (i := 10) (i2 := 12) rfl rfl (by kernel_rfl) (fun K hK => ?_) (fun K hK => ?_)
  · rw [if_pos (by rfl)]
    go_simp; ((refine (HZ5.out _).mono ?_); (rintro e w1 ⟨rfl, hb⟩); have HS1 := Lib.hid (HSd.out.on hb); have HW1 := Lib.hid (below_then HWd.out hb); clear hb; (try go_simp))
    refine hK.out _ _ (HS1.out) (fun hNew => ?_)
    clear hK K hHeld; (have hHeld := hNew); clear hNew; (try simp only [Act.put, List.setIfInBounds_toArray, List.set_cons_zero, List.set_cons_succ])
    (refine takeH (i := 11) (v := ?_) rfl (by kernel_rfl) (by kernel_rfl) (by kernel_rfl) (fun _ _ _ h => h) (Or.inl ⟨by rfl, ?_⟩) (by assumption) ?_; rotate_left; (focus ((intro wS hSw); (try dsimp only at hSw); (obtain ⟨s0, s1, s2, s3, s4, s5, s6, s7, s8⟩ := hSw.docC; obtain ⟨q0, q1, q2, q3, q4, q5, q6, q7, q8⟩ := hSw.lineC); go_simp; (try with_reducible rfl); done)); (try simp only [Act.put, List.setIfInBounds_toArray, List.set_cons_zero, List.set_cons_succ]))
    refine aloneH (i := 12) rfl (by kernel_rfl) (fun K hK => ?_)
    rw [if_pos (by rfl)]
    go_simp
    have HC2 := Lib.hid (heap_alloc_new w1 (.cells #[.bool false, .int .i64 0, .bool false, .int .i64 0, .int .i64 0, .int .i64 0, .int .i64 0, .bool false, .bool false] 37))
    have hb := below_alloc w1 (.cells #[.bool false, .int .i64 0, .bool false, .int .i64 0, .int .i64 0, .int .i64 0, .int .i64 0, .bool false, .bool false] 37)
    have HS2 := Lib.hid (HS1.out.on hb)
    have HW2 := Lib.hid (below_then HW1.out hb)
    clear hb
    have HG := Lib.hid (heapLt HS1.out.hr)
    generalize hx : World.alloc w1 (.cells #[.bool false, .int .i64 0, .bool false, .int .i64 0, .int .i64 0, .int .i64 0, .int .i64 0, .bool false, .bool false] 37) = w2 at HC2 HS2 HW2 ⊢
    clear hx
    obtain ⟨g, hg⟩ : ∃ g, g = w1.heap.size := ⟨_, rfl⟩
    rw [← hg] at HC2 HG
    rw [← hg]
    clear hg
    refine hK.out _ _ (HS2.out) (fun hNew => ?_)
    clear hK K hHeld; (have hHeld := hNew); clear hNew; (try simp only [Act.put, List.setIfInBounds_toArray, List.set_cons_zero, List.set_cons_succ])
    refine aloneH (i := 13) rfl (by kernel_rfl) (fun K hK => ?_)
    rw [if_pos (by rfl)]
    refine wp_store_row 37 (.tmp 9) (.tmp 29) (by rfl) g #[.bool d.sale, .int .i64 su, .bool (ca == 5), .int .i64 0, .int .i64 0, .int .i64 (zn home d.country), .int .i64 0, .bool false, .bool false] (by rfl) (by rfl) 37 #[.bool false, .int .i64 0, .bool false, .int .i64 0, .int .i64 0, .int .i64 0, .int .i64 0, .bool false, .bool false] HC2.out (by kernel_rfl) (by rfl) (by simp [Value.oneCell']) ?_
    have HS3 := Lib.hid (HS2.out.row HG.out #[.bool d.sale, .int .i64 su, .bool (ca == 5), .int .i64 0, .int .i64 0, .int .i64 (zn home d.country), .int .i64 0, .bool false, .bool false])
    have HW3 := Lib.hid (below_setRow HW2.out (g := g) (by have := HG.out; omega) #[.bool d.sale, .int .i64 su, .bool (ca == 5), .int .i64 0, .int .i64 0, .int .i64 (zn home d.country), .int .i64 0, .bool false, .bool false])
    have HC3 := Lib.hid (setRow_heap w2 g _ #[.bool d.sale, .int .i64 su, .bool (ca == 5), .int .i64 0, .int .i64 0, .int .i64 (zn home d.country), .int .i64 0, .bool false, .bool false] _ _ HC2.out)
    generalize hx : World.setRow w2 g _ = w3 at HS3 HW3 HC3 ⊢
    clear hx
    refine hK.out _ _ (HS3.out) (fun hNew => ?_)
    clear hK K hHeld; (have hHeld := hNew); clear hNew; (try simp only [Act.put])
    refine wpAnyH_done (by kernel_rfl) ?_ _
    clear hHeld
    have HSa := Lib.hid HS3.out
    have HWa := Lib.hid HW3.out
    have HCa := Lib.hid HC3.out
    clear HSd HWd HS1 HW1 HS2 HW2 HS3 HW3
    obtain ⟨l0, l1, l2, l3, l4, l5, l6, l7, l8⟩ := HSa.out.lineC
    have hG := HG.out
    go_wp2_with (go_at_call 17; refine (HMv.out _).mono ?_; rintro e wb ⟨rfl, hb⟩; have HSb := Lib.hid (HSa.out.on hb); have HWb := Lib.hid (below_then HWa.out hb); have HCb := Lib.hid (heap_on hb HCa.out); clear hb l0 l1 l2 l3 l4 l5 l6 l7 l8; obtain ⟨l0, l1, l2, l3, l4, l5, l6, l7, l8⟩ := HSb.out.lineC; refine Stop.out ?_)
    unfold Stop
    go_wp2_with (go_at_call 30; refine (HZ3.out _).mono ?_; rintro e wc ⟨rfl, hb⟩; have HSc := Lib.hid (HSb.out.on hb); have HWc := Lib.hid (below_then HWb.out hb); have HCc := Lib.hid (heap_on hb HCb.out); clear hb l0 l1 l2 l3 l4 l5 l6 l7 l8; obtain ⟨l0, l1, l2, l3, l4, l5, l6, l7, l8⟩ := HSc.out.lineC; refine Stop.out ?_)
    unfold Stop
    obtain ⟨k0, k1, k2, k3, k4, k5, k6, k7, k8⟩ := cellsLineV HCc.out
    have kf := frozen9 HCc.out 3 (by omega)
    go_wp2_with (go_at_call 30; refine (HZ4.out _).mono ?_; rintro e wd ⟨rfl, hb⟩; have HSd := Lib.hid ((HSc.out.cell hG 3 (.int .i64 (zn home fr))).on hb); have HWd := Lib.hid (below_then (below_set (b := g) (o := 3) (x := .int .i64 (zn home fr)) (by omega) HWc.out) hb); have HCd := Lib.hid (heap_on hb (show (wc.setCell ⟨g, 3, none⟩ (.int .i64 (zn home fr))).heap[g]? = some (.cells #[.bool d.sale, .int .i64 su, .bool (ca == 5), .int .i64 (zn home fr), .int .i64 0, .int .i64 (zn home d.country), .int .i64 0, .bool false, .bool false] 37 (0, 0)) from heap_setCell_same _ g 3 _ _ _ HCc.out)); clear hb l0 l1 l2 l3 l4 l5 l6 l7 l8; obtain ⟨l0, l1, l2, l3, l4, l5, l6, l7, l8⟩ := HSd.out.lineC; refine Stop.out ?_)
    unfold Stop
    clear k0 k1 k2 k3 k4 k5 k6 k7 k8 kf
    obtain ⟨k0, k1, k2, k3, k4, k5, k6, k7, k8⟩ := cellsLineV HCd.out
    have kf := frozen9 HCd.out 4 (by omega)
    go_wp2_with (go_at_call 19; refine (HLc.out _).mono ?_; rintro e we ⟨rfl, hb⟩; have HSe := Lib.hid ((HSd.out.cell hG 4 (.int .i64 (zn home to_))).on hb); have HWe := Lib.hid (below_then (below_set (b := g) (o := 4) (x := .int .i64 (zn home to_)) (by omega) HWd.out) hb); have HCe := Lib.hid (heap_on hb (show (wd.setCell ⟨g, 4, none⟩ (.int .i64 (zn home to_))).heap[g]? = some (.cells #[.bool d.sale, .int .i64 su, .bool (ca == 5), .int .i64 (zn home fr), .int .i64 (zn home to_), .int .i64 (zn home d.country), .int .i64 0, .bool false, .bool false] 37 (0, 0)) from heap_setCell_same _ g 4 _ _ _ HCd.out)); clear hb l0 l1 l2 l3 l4 l5 l6 l7 l8; obtain ⟨l0, l1, l2, l3, l4, l5, l6, l7, l8⟩ := HSe.out.lineC; refine Stop.out ?_)
    unfold Stop
    clear k0 k1 k2 k3 k4 k5 k6 k7 k8 kf
    obtain ⟨k0, k1, k2, k3, k4, k5, k6, k7, k8⟩ := cellsLineV HCe.out
    go_wp2_with (refine wpList_store_row (o := ⟨none, _, _, _, _, _⟩) rfl 37 (.tmp 6) (.tmp 49) (by rfl) (w.heap.size + 1 + 1) #[.bool d.sale, .int .i64 su, .bool (ca == 5), .int .i64 (zn home fr), .int .i64 (zn home to_), .int .i64 (zn home d.country), .int .i64 0, .bool false, .bool false] (by rfl) (by rfl) 37 #[.bool false, .int .i64 0, .bool false, .int .i64 0, .int .i64 0, .int .i64 0, .int .i64 0, .bool false, .bool false] HSe.out.hr (by kernel_rfl) (by rfl) (by simp [Value.oneCell']) ?_; have HP9 := Lib.hid (setRow_heap we (w.heap.size + 1 + 1) _ #[.bool d.sale, .int .i64 su, .bool (ca == 5), .int .i64 (zn home fr), .int .i64 (zn home to_), .int .i64 (zn home d.country), .int .i64 0, .bool false, .bool false] _ _ HSe.out.hr); have HB9 := Lib.hid (below_setRow HWe.out (g := w.heap.size + 1 + 1) (by omega) #[.bool d.sale, .int .i64 su, .bool (ca == 5), .int .i64 (zn home fr), .int .i64 (zn home to_), .int .i64 (zn home d.country), .int .i64 0, .bool false, .bool false]); refine Stop.out ?_)
    clear k0 k1 k2 k3 k4 k5 k6 k7 k8
    unfold Stop
    generalize hx : World.setRow we (w.heap.size + 1 + 1) _ = w9 at HP9 HB9 ⊢
    clear hx
    obtain ⟨j0, j1, j2, j3, j4, j5, j6, j7, j8⟩ := cellsLineV HP9.out
    go_wp2
    exact bodyPost_ret (v := .tuple #[.agg #[.bool d.sale, .int .i64 su, .bool (ca == 5), .int .i64 (zn home fr), .int .i64 (zn home to_), .int .i64 (zn home d.country), .int .i64 0, .bool false, .bool false], .int .i64 0]) (by simp [results, Try.results15, go_sem, j0, j1, j2, j3, j4, j5, j6, j7, j8]) rfl ⟨rfl, HB9.out⟩
    
  · rw [if_pos (by rfl)]
    go_simp
    have HC1 := Lib.hid (heap_alloc_new wd (.cells #[.bool false, .int .i64 0, .bool false, .int .i64 0, .int .i64 0, .int .i64 0, .int .i64 0, .bool false, .bool false] 37))
    have hb := below_alloc wd (.cells #[.bool false, .int .i64 0, .bool false, .int .i64 0, .int .i64 0, .int .i64 0, .int .i64 0, .bool false, .bool false] 37)
    have HS1 := Lib.hid (HSd.out.on hb)
    have HW1 := Lib.hid (below_then HWd.out hb)
    clear hb
    have HG := Lib.hid (heapLt HSd.out.hr)
    generalize hx : World.alloc wd (.cells #[.bool false, .int .i64 0, .bool false, .int .i64 0, .int .i64 0, .int .i64 0, .int .i64 0, .bool false, .bool false] 37) = w1 at HC1 HS1 HW1 ⊢
    clear hx
    obtain ⟨g, hg⟩ : ∃ g, g = wd.heap.size := ⟨_, rfl⟩
    rw [← hg] at HC1 HG
    rw [← hg]
    clear hg
    refine hK.out _ _ (HS1.out) (fun hNew => ?_)
    clear hK K hHeld; (have hHeld := hNew); clear hNew; (try simp only [Act.put, List.setIfInBounds_toArray, List.set_cons_zero, List.set_cons_succ])
    refine aloneH (i := 10) rfl (by kernel_rfl) (fun K hK => ?_)
    rw [if_pos (by rfl)]
    go_simp; ((refine (HZ5.out _).mono ?_); (rintro e w2 ⟨rfl, hb⟩); have HS2 := Lib.hid (HS1.out.on hb); have HW2 := Lib.hid (below_then HW1.out hb); have HC2 := Lib.hid (heap_on hb HC1.out); clear hb; (try go_simp))
    refine hK.out _ _ (HS2.out) (fun hNew => ?_)
    clear hK K hHeld; (have hHeld := hNew); clear hNew; (try simp only [Act.put, List.setIfInBounds_toArray, List.set_cons_zero, List.set_cons_succ])
    (refine takeH (i := 11) (v := ?_) rfl (by kernel_rfl) (by kernel_rfl) (by kernel_rfl) (fun _ _ _ h => h) (Or.inl ⟨by rfl, ?_⟩) (by assumption) ?_; rotate_left; (focus ((intro wS hSw); (try dsimp only at hSw); (obtain ⟨s0, s1, s2, s3, s4, s5, s6, s7, s8⟩ := hSw.docC; obtain ⟨q0, q1, q2, q3, q4, q5, q6, q7, q8⟩ := hSw.lineC); go_simp; (try with_reducible rfl); done)); (try simp only [Act.put, List.setIfInBounds_toArray, List.set_cons_zero, List.set_cons_succ]))
    refine aloneH (i := 13) rfl (by kernel_rfl) (fun K hK => ?_)
    rw [if_pos (by rfl)]
    refine wp_store_row 37 (.tmp 9) (.tmp 29) (by rfl) g #[.bool d.sale, .int .i64 su, .bool (ca == 5), .int .i64 0, .int .i64 0, .int .i64 (zn home d.country), .int .i64 0, .bool false, .bool false] (by rfl) (by rfl) 37 #[.bool false, .int .i64 0, .bool false, .int .i64 0, .int .i64 0, .int .i64 0, .int .i64 0, .bool false, .bool false] HC2.out (by kernel_rfl) (by rfl) (by simp [Value.oneCell']) ?_
    have HS3 := Lib.hid (HS2.out.row HG.out #[.bool d.sale, .int .i64 su, .bool (ca == 5), .int .i64 0, .int .i64 0, .int .i64 (zn home d.country), .int .i64 0, .bool false, .bool false])
    have HW3 := Lib.hid (below_setRow HW2.out (g := g) (by have := HG.out; omega) #[.bool d.sale, .int .i64 su, .bool (ca == 5), .int .i64 0, .int .i64 0, .int .i64 (zn home d.country), .int .i64 0, .bool false, .bool false])
    have HC3 := Lib.hid (setRow_heap w2 g _ #[.bool d.sale, .int .i64 su, .bool (ca == 5), .int .i64 0, .int .i64 0, .int .i64 (zn home d.country), .int .i64 0, .bool false, .bool false] _ _ HC2.out)
    generalize hx : World.setRow w2 g _ = w3 at HS3 HW3 HC3 ⊢
    clear hx
    refine hK.out _ _ (HS3.out) (fun hNew => ?_)
    clear hK K hHeld; (have hHeld := hNew); clear hNew; (try simp only [Act.put])
    refine wpAnyH_done (by kernel_rfl) ?_ _
    clear hHeld
    have HSa := Lib.hid HS3.out
    have HWa := Lib.hid HW3.out
    have HCa := Lib.hid HC3.out
    clear HSd HWd HS1 HW1 HS2 HW2 HS3 HW3
    obtain ⟨l0, l1, l2, l3, l4, l5, l6, l7, l8⟩ := HSa.out.lineC
    have hG := HG.out
    go_wp2_with (go_at_call 17; refine (HMv.out _).mono ?_; rintro e wb ⟨rfl, hb⟩; have HSb := Lib.hid (HSa.out.on hb); have HWb := Lib.hid (below_then HWa.out hb); have HCb := Lib.hid (heap_on hb HCa.out); clear hb l0 l1 l2 l3 l4 l5 l6 l7 l8; obtain ⟨l0, l1, l2, l3, l4, l5, l6, l7, l8⟩ := HSb.out.lineC; refine Stop.out ?_)
    unfold Stop
    go_wp2_with (go_at_call 30; refine (HZ3.out _).mono ?_; rintro e wc ⟨rfl, hb⟩; have HSc := Lib.hid (HSb.out.on hb); have HWc := Lib.hid (below_then HWb.out hb); have HCc := Lib.hid (heap_on hb HCb.out); clear hb l0 l1 l2 l3 l4 l5 l6 l7 l8; obtain ⟨l0, l1, l2, l3, l4, l5, l6, l7, l8⟩ := HSc.out.lineC; refine Stop.out ?_)
    unfold Stop
    obtain ⟨k0, k1, k2, k3, k4, k5, k6, k7, k8⟩ := cellsLineV HCc.out
    have kf := frozen9 HCc.out 3 (by omega)
    go_wp2_with (go_at_call 30; refine (HZ4.out _).mono ?_; rintro e wd ⟨rfl, hb⟩; have HSd := Lib.hid ((HSc.out.cell hG 3 (.int .i64 (zn home fr))).on hb); have HWd := Lib.hid (below_then (below_set (b := g) (o := 3) (x := .int .i64 (zn home fr)) (by omega) HWc.out) hb); have HCd := Lib.hid (heap_on hb (show (wc.setCell ⟨g, 3, none⟩ (.int .i64 (zn home fr))).heap[g]? = some (.cells #[.bool d.sale, .int .i64 su, .bool (ca == 5), .int .i64 (zn home fr), .int .i64 0, .int .i64 (zn home d.country), .int .i64 0, .bool false, .bool false] 37 (0, 0)) from heap_setCell_same _ g 3 _ _ _ HCc.out)); clear hb l0 l1 l2 l3 l4 l5 l6 l7 l8; obtain ⟨l0, l1, l2, l3, l4, l5, l6, l7, l8⟩ := HSd.out.lineC; refine Stop.out ?_)
    unfold Stop
    clear k0 k1 k2 k3 k4 k5 k6 k7 k8 kf
    obtain ⟨k0, k1, k2, k3, k4, k5, k6, k7, k8⟩ := cellsLineV HCd.out
    have kf := frozen9 HCd.out 4 (by omega)
    go_wp2_with (go_at_call 19; refine (HLc.out _).mono ?_; rintro e we ⟨rfl, hb⟩; have HSe := Lib.hid ((HSd.out.cell hG 4 (.int .i64 (zn home to_))).on hb); have HWe := Lib.hid (below_then (below_set (b := g) (o := 4) (x := .int .i64 (zn home to_)) (by omega) HWd.out) hb); have HCe := Lib.hid (heap_on hb (show (wd.setCell ⟨g, 4, none⟩ (.int .i64 (zn home to_))).heap[g]? = some (.cells #[.bool d.sale, .int .i64 su, .bool (ca == 5), .int .i64 (zn home fr), .int .i64 (zn home to_), .int .i64 (zn home d.country), .int .i64 0, .bool false, .bool false] 37 (0, 0)) from heap_setCell_same _ g 4 _ _ _ HCd.out)); clear hb l0 l1 l2 l3 l4 l5 l6 l7 l8; obtain ⟨l0, l1, l2, l3, l4, l5, l6, l7, l8⟩ := HSe.out.lineC; refine Stop.out ?_)
    unfold Stop
    clear k0 k1 k2 k3 k4 k5 k6 k7 k8 kf
    obtain ⟨k0, k1, k2, k3, k4, k5, k6, k7, k8⟩ := cellsLineV HCe.out
    go_wp2_with (refine wpList_store_row (o := ⟨none, _, _, _, _, _⟩) rfl 37 (.tmp 6) (.tmp 49) (by rfl) (w.heap.size + 1 + 1) #[.bool d.sale, .int .i64 su, .bool (ca == 5), .int .i64 (zn home fr), .int .i64 (zn home to_), .int .i64 (zn home d.country), .int .i64 0, .bool false, .bool false] (by rfl) (by rfl) 37 #[.bool false, .int .i64 0, .bool false, .int .i64 0, .int .i64 0, .int .i64 0, .int .i64 0, .bool false, .bool false] HSe.out.hr (by kernel_rfl) (by rfl) (by simp [Value.oneCell']) ?_; have HP9 := Lib.hid (setRow_heap we (w.heap.size + 1 + 1) _ #[.bool d.sale, .int .i64 su, .bool (ca == 5), .int .i64 (zn home fr), .int .i64 (zn home to_), .int .i64 (zn home d.country), .int .i64 0, .bool false, .bool false] _ _ HSe.out.hr); have HB9 := Lib.hid (below_setRow HWe.out (g := w.heap.size + 1 + 1) (by omega) #[.bool d.sale, .int .i64 su, .bool (ca == 5), .int .i64 (zn home fr), .int .i64 (zn home to_), .int .i64 (zn home d.country), .int .i64 0, .bool false, .bool false]); refine Stop.out ?_)
    clear k0 k1 k2 k3 k4 k5 k6 k7 k8
    unfold Stop
    generalize hx : World.setRow we (w.heap.size + 1 + 1) _ = w9 at HP9 HB9 ⊢
    clear hx
    obtain ⟨j0, j1, j2, j3, j4, j5, j6, j7, j8⟩ := cellsLineV HP9.out
    go_wp2
    exact bodyPost_ret (v := .tuple #[.agg #[.bool d.sale, .int .i64 su, .bool (ca == 5), .int .i64 (zn home fr), .int .i64 (zn home to_), .int .i64 (zn home d.country), .int .i64 0, .bool false, .bool false], .int .i64 0]) (by simp [results, Try.results15, go_sem, j0, j1, j2, j3, j4, j5, j6, j7, j8]) rfl ⟨rfl, HB9.out⟩
    
set_option maxHeartbeats 4000000 in
theorem ref_case_loc (home : ByteArray) (d : DocV) (su ca : Int) (fr to_ pl : ByteArray) (am : Int) (gr : Bool) (co : Int) (mi : Bool) (w : World) (HWr : Hid (∀ W, Calls Try.prog 29 #[.string home, .agg #[.string d.id, .bool d.sale, .bool d.credit, .string d.refers, .int .i64 d.day, .string d.country, .string d.number, .string d.currency, .slice d.linesA d.lines.length d.linesC], .agg #[.int .i64 su, .int .i64 ca, .string fr, .string to_, .string pl, .int .i64 am, .bool gr, .int .i64 co, .bool mi]] W fun e w1 => e = .returned (.int .i64 0) ∧ Below W.heap.size W w1)) (HZ5 : Hid (∀ W, Calls Try.prog 30 #[.string home, .string d.country] W fun e w1 => e = .returned (.int .i64 (zn home d.country)) ∧ Below W.heap.size W w1)) (HZ6 : Hid (∀ W, Calls Try.prog 30 #[.string home, .string pl] W fun e w1 => e = .returned (.int .i64 (zn home pl)) ∧ Below W.heap.size W w1)) (hmv : movB su = false) (hlc : locB su = true) : Calls Try.prog 15 #[.string home, .agg #[.string d.id, .bool d.sale, .bool d.credit, .string d.refers, .int .i64 d.day, .string d.country, .string d.number, .string d.currency, .slice d.linesA d.lines.length d.linesC], .agg #[.int .i64 su, .int .i64 ca, .string fr, .string to_, .string pl, .int .i64 am, .bool gr, .int .i64 co, .bool mi]] w fun e w1 => e = .returned (.tuple #[.agg #[.bool d.sale, .int .i64 su, .bool (ca == 5), .int .i64 0, .int .i64 0, .int .i64 (zn home d.country), .int .i64 (zn home pl), .bool false, .bool false], .int .i64 0]) ∧ Below w.heap.size w w1 := by
  have HMv : Hid (∀ W, Calls Try.prog 17 #[.agg #[.int .i64 su, .int .i64 ca, .string fr, .string to_, .string pl, .int .i64 am, .bool gr, .int .i64 co, .bool mi]] W fun e w1 => e = .returned (.bool false) ∧ Below W.heap.size W w1) := Lib.hid (fun W => (ref_moved su ca fr to_ pl am gr co mi W).mono (fun e w1 h => ⟨by rw [h.1, hmv], by rw [h.2]; exact below_alloc _ _⟩))
  have HLc : Hid (∀ W, Calls Try.prog 19 #[.agg #[.int .i64 su, .int .i64 ca, .string fr, .string to_, .string pl, .int .i64 am, .bool gr, .int .i64 co, .bool mi]] W fun e w1 => e = .returned (.bool true) ∧ Below W.heap.size W w1) := Lib.hid (fun W => (ref_local su ca fr to_ pl am gr co mi W).mono (fun e w1 h => ⟨by rw [h.1, hlc], by rw [h.2]; exact below_alloc _ _⟩))
  clear hmv hlc
  go_enter Try.func15, Try.ntmps15
  go_wp2_with ((go_at_call 29; refine (HWr.out _).mono ?_; rintro e w1 ⟨rfl, hb⟩; have HS1 := Lib.hid ((refS_start w d su ca fr to_ pl am gr co mi).on hb); have HW1 := Lib.hid (Below.trans (show Below w.heap.size w _ by repeat (first | exact below_alloc _ _ | exact below_same _ | assumption | refine below_more ?_)) (hb.mono (show w.heap.size ≤ _ by simp; try omega))); clear hb; obtain ⟨d0, d1, d2, d3, d4, d5, d6, d7, d8⟩ := HS1.out.docC; obtain ⟨l0, l1, l2, l3, l4, l5, l6, l7, l8⟩ := HS1.out.lineC))
  have HSd := Lib.hid (HS1.out.on (below_drew _))
  have HWd := Lib.hid (below_then HW1.out (below_drew _))
  refine wp_region_held_drew (S := fun V => RefS w.heap.size d su ca fr to_ pl am gr co mi V) (by kernel_rfl) HSd.out ?_
  intro hHeld
  clear HS1 HW1 d0 d1 d2 d3 d4 d5 d6 d7 d8 l0 l1 l2 l3 l4 l5 l6 l7 l8
  generalize World.drew _ = wd at HSd HWd hHeld ⊢
  (refine takeH (i := 0) (v := ?_) rfl (by kernel_rfl) (by kernel_rfl) (by kernel_rfl) (fun _ _ _ h => h) (Or.inl ⟨by rfl, ?_⟩) (by assumption) ?_; rotate_left; (focus ((intro wS hSw); (try dsimp only at hSw); (obtain ⟨s0, s1, s2, s3, s4, s5, s6, s7, s8⟩ := hSw.docC; obtain ⟨q0, q1, q2, q3, q4, q5, q6, q7, q8⟩ := hSw.lineC); go_simp; (try with_reducible rfl); done)); (try simp only [Act.put, List.setIfInBounds_toArray, List.set_cons_zero, List.set_cons_succ]))
  (refine takeH (i := 1) (v := ?_) rfl (by kernel_rfl) (by kernel_rfl) (by kernel_rfl) (fun _ _ _ h => h) (Or.inl ⟨by rfl, ?_⟩) (by assumption) ?_; rotate_left; (focus ((intro wS hSw); (try dsimp only at hSw); (obtain ⟨s0, s1, s2, s3, s4, s5, s6, s7, s8⟩ := hSw.docC; obtain ⟨q0, q1, q2, q3, q4, q5, q6, q7, q8⟩ := hSw.lineC); go_simp; (try with_reducible rfl); done)); (try simp only [Act.put, List.setIfInBounds_toArray, List.set_cons_zero, List.set_cons_succ]))
  (refine takeH (i := 2) (v := ?_) rfl (by kernel_rfl) (by kernel_rfl) (by kernel_rfl) (fun _ _ _ h => h) (Or.inl ⟨by rfl, ?_⟩) (by assumption) ?_; rotate_left; (focus ((intro wS hSw); (try dsimp only at hSw); (obtain ⟨s0, s1, s2, s3, s4, s5, s6, s7, s8⟩ := hSw.docC; obtain ⟨q0, q1, q2, q3, q4, q5, q6, q7, q8⟩ := hSw.lineC); go_simp; (try with_reducible rfl); done)); (try simp only [Act.put, List.setIfInBounds_toArray, List.set_cons_zero, List.set_cons_succ]))
  (refine takeH (i := 3) (v := ?_) rfl (by kernel_rfl) (by kernel_rfl) (by kernel_rfl) (fun _ _ _ h => h) (Or.inl ⟨by rfl, ?_⟩) (by assumption) ?_; rotate_left; (focus ((intro wS hSw); (try dsimp only at hSw); (obtain ⟨s0, s1, s2, s3, s4, s5, s6, s7, s8⟩ := hSw.docC; obtain ⟨q0, q1, q2, q3, q4, q5, q6, q7, q8⟩ := hSw.lineC); go_simp; (try with_reducible rfl); done)); (try simp only [Act.put, List.setIfInBounds_toArray, List.set_cons_zero, List.set_cons_succ]))
  (refine takeH (i := 4) (v := ?_) rfl (by kernel_rfl) (by kernel_rfl) (by kernel_rfl) (fun _ _ _ h => h) (Or.inl ⟨by rfl, ?_⟩) (by assumption) ?_; rotate_left; (focus ((intro wS hSw); (try dsimp only at hSw); (obtain ⟨s0, s1, s2, s3, s4, s5, s6, s7, s8⟩ := hSw.docC; obtain ⟨q0, q1, q2, q3, q4, q5, q6, q7, q8⟩ := hSw.lineC); go_simp; (try with_reducible rfl); done)); (try simp only [Act.put, List.setIfInBounds_toArray, List.set_cons_zero, List.set_cons_succ]))
  (refine takeH (i := 5) (v := ?_) rfl (by kernel_rfl) (by kernel_rfl) (by kernel_rfl) (fun _ _ _ h => h) (Or.inl ⟨by rfl, ?_⟩) (by assumption) ?_; rotate_left; (focus ((intro wS hSw); (try dsimp only at hSw); (obtain ⟨s0, s1, s2, s3, s4, s5, s6, s7, s8⟩ := hSw.docC; obtain ⟨q0, q1, q2, q3, q4, q5, q6, q7, q8⟩ := hSw.lineC); go_simp; (try with_reducible rfl); done)); (try simp only [Act.put, List.setIfInBounds_toArray, List.set_cons_zero, List.set_cons_succ]))
  (refine takeH (i := 6) (v := ?_) rfl (by kernel_rfl) (by kernel_rfl) (by kernel_rfl) (fun _ _ _ h => h) (Or.inl ⟨by rfl, ?_⟩) (by assumption) ?_; rotate_left; (focus ((intro wS hSw); (try dsimp only at hSw); (obtain ⟨s0, s1, s2, s3, s4, s5, s6, s7, s8⟩ := hSw.docC; obtain ⟨q0, q1, q2, q3, q4, q5, q6, q7, q8⟩ := hSw.lineC); go_simp; (try with_reducible rfl); done)); (try simp only [Act.put, List.setIfInBounds_toArray, List.set_cons_zero, List.set_cons_succ]))
  (refine takeH (i := 7) (v := ?_) rfl (by kernel_rfl) (by kernel_rfl) (by kernel_rfl) (fun _ _ _ h => h) (Or.inl ⟨by rfl, ?_⟩) (by assumption) ?_; rotate_left; (focus ((intro wS hSw); (try dsimp only at hSw); (obtain ⟨s0, s1, s2, s3, s4, s5, s6, s7, s8⟩ := hSw.docC; obtain ⟨q0, q1, q2, q3, q4, q5, q6, q7, q8⟩ := hSw.lineC); go_simp; (try with_reducible rfl); done)); (try simp only [Act.put, List.setIfInBounds_toArray, List.set_cons_zero, List.set_cons_succ]))
  (refine takeH (i := 8) (v := ?_) rfl (by kernel_rfl) (by kernel_rfl) (by kernel_rfl) (fun _ _ _ h => h) (Or.inl ⟨by rfl, ?_⟩) (by assumption) ?_; rotate_left; (focus ((intro wS hSw); (try dsimp only at hSw); (obtain ⟨s0, s1, s2, s3, s4, s5, s6, s7, s8⟩ := hSw.docC; obtain ⟨q0, q1, q2, q3, q4, q5, q6, q7, q8⟩ := hSw.lineC); go_simp; (try with_reducible rfl); done)); (try simp only [Act.put, List.setIfInBounds_toArray, List.set_cons_zero, List.set_cons_succ]))
  (refine takeH (i := 9) (v := ?_) rfl (by kernel_rfl) (by kernel_rfl) (by kernel_rfl) (fun _ _ _ h => h) (Or.inl ⟨by rfl, ?_⟩) (by assumption) ?_; rotate_left; (focus ((intro wS hSw); (try dsimp only at hSw); (obtain ⟨s0, s1, s2, s3, s4, s5, s6, s7, s8⟩ := hSw.docC; obtain ⟨q0, q1, q2, q3, q4, q5, q6, q7, q8⟩ := hSw.lineC); go_simp; (try with_reducible rfl); done)); (try simp only [Act.put, List.setIfInBounds_toArray, List.set_cons_zero, List.set_cons_succ]))
  refine twoH (i := 10) (i2 := 12) rfl rfl (by kernel_rfl) (fun K hK => ?_) (fun K hK => ?_)
  · rw [if_pos (by rfl)]
    go_simp; ((refine (HZ5.out _).mono ?_); (rintro e w1 ⟨rfl, hb⟩); have HS1 := Lib.hid (HSd.out.on hb); have HW1 := Lib.hid (below_then HWd.out hb); clear hb; (try go_simp))
    refine hK.out _ _ (HS1.out) (fun hNew => ?_)
    clear hK K hHeld; (have hHeld := hNew); clear hNew; (try simp only [Act.put, List.setIfInBounds_toArray, List.set_cons_zero, List.set_cons_succ])
    (refine takeH (i := 11) (v := ?_) rfl (by kernel_rfl) (by kernel_rfl) (by kernel_rfl) (fun _ _ _ h => h) (Or.inl ⟨by rfl, ?_⟩) (by assumption) ?_; rotate_left; (focus ((intro wS hSw); (try dsimp only at hSw); (obtain ⟨s0, s1, s2, s3, s4, s5, s6, s7, s8⟩ := hSw.docC; obtain ⟨q0, q1, q2, q3, q4, q5, q6, q7, q8⟩ := hSw.lineC); go_simp; (try with_reducible rfl); done)); (try simp only [Act.put, List.setIfInBounds_toArray, List.set_cons_zero, List.set_cons_succ]))
    refine aloneH (i := 12) rfl (by kernel_rfl) (fun K hK => ?_)
    rw [if_pos (by rfl)]
    go_simp
    have HC2 := Lib.hid (heap_alloc_new w1 (.cells #[.bool false, .int .i64 0, .bool false, .int .i64 0, .int .i64 0, .int .i64 0, .int .i64 0, .bool false, .bool false] 37))
    have hb := below_alloc w1 (.cells #[.bool false, .int .i64 0, .bool false, .int .i64 0, .int .i64 0, .int .i64 0, .int .i64 0, .bool false, .bool false] 37)
    have HS2 := Lib.hid (HS1.out.on hb)
    have HW2 := Lib.hid (below_then HW1.out hb)
    clear hb
    have HG := Lib.hid (heapLt HS1.out.hr)
    generalize hx : World.alloc w1 (.cells #[.bool false, .int .i64 0, .bool false, .int .i64 0, .int .i64 0, .int .i64 0, .int .i64 0, .bool false, .bool false] 37) = w2 at HC2 HS2 HW2 ⊢
    clear hx
    obtain ⟨g, hg⟩ : ∃ g, g = w1.heap.size := ⟨_, rfl⟩
    rw [← hg] at HC2 HG
    rw [← hg]
    clear hg
    refine hK.out _ _ (HS2.out) (fun hNew => ?_)
    clear hK K hHeld; (have hHeld := hNew); clear hNew; (try simp only [Act.put, List.setIfInBounds_toArray, List.set_cons_zero, List.set_cons_succ])
    refine aloneH (i := 13) rfl (by kernel_rfl) (fun K hK => ?_)
    rw [if_pos (by rfl)]
    refine wp_store_row 37 (.tmp 9) (.tmp 29) (by rfl) g #[.bool d.sale, .int .i64 su, .bool (ca == 5), .int .i64 0, .int .i64 0, .int .i64 (zn home d.country), .int .i64 0, .bool false, .bool false] (by rfl) (by rfl) 37 #[.bool false, .int .i64 0, .bool false, .int .i64 0, .int .i64 0, .int .i64 0, .int .i64 0, .bool false, .bool false] HC2.out (by kernel_rfl) (by rfl) (by simp [Value.oneCell']) ?_
    have HS3 := Lib.hid (HS2.out.row HG.out #[.bool d.sale, .int .i64 su, .bool (ca == 5), .int .i64 0, .int .i64 0, .int .i64 (zn home d.country), .int .i64 0, .bool false, .bool false])
    have HW3 := Lib.hid (below_setRow HW2.out (g := g) (by have := HG.out; omega) #[.bool d.sale, .int .i64 su, .bool (ca == 5), .int .i64 0, .int .i64 0, .int .i64 (zn home d.country), .int .i64 0, .bool false, .bool false])
    have HC3 := Lib.hid (setRow_heap w2 g _ #[.bool d.sale, .int .i64 su, .bool (ca == 5), .int .i64 0, .int .i64 0, .int .i64 (zn home d.country), .int .i64 0, .bool false, .bool false] _ _ HC2.out)
    generalize hx : World.setRow w2 g _ = w3 at HS3 HW3 HC3 ⊢
    clear hx
    refine hK.out _ _ (HS3.out) (fun hNew => ?_)
    clear hK K hHeld; (have hHeld := hNew); clear hNew; (try simp only [Act.put])
    refine wpAnyH_done (by kernel_rfl) ?_ _
    clear hHeld
    have HSa := Lib.hid HS3.out
    have HWa := Lib.hid HW3.out
    have HCa := Lib.hid HC3.out
    clear HSd HWd HS1 HW1 HS2 HW2 HS3 HW3
    obtain ⟨l0, l1, l2, l3, l4, l5, l6, l7, l8⟩ := HSa.out.lineC
    have hG := HG.out
    go_wp2_with (go_at_call 17; refine (HMv.out _).mono ?_; rintro e wb ⟨rfl, hb⟩; have HSb := Lib.hid (HSa.out.on hb); have HWb := Lib.hid (below_then HWa.out hb); have HCb := Lib.hid (heap_on hb HCa.out); clear hb l0 l1 l2 l3 l4 l5 l6 l7 l8; obtain ⟨l0, l1, l2, l3, l4, l5, l6, l7, l8⟩ := HSb.out.lineC; refine Stop.out ?_)
    unfold Stop
    go_wp2_with (go_at_call 19; refine (HLc.out _).mono ?_; rintro e wc ⟨rfl, hb⟩; have HSc := Lib.hid (HSb.out.on hb); have HWc := Lib.hid (below_then HWb.out hb); have HCc := Lib.hid (heap_on hb HCb.out); clear hb l0 l1 l2 l3 l4 l5 l6 l7 l8; obtain ⟨l0, l1, l2, l3, l4, l5, l6, l7, l8⟩ := HSc.out.lineC; refine Stop.out ?_)
    unfold Stop
    go_wp2_with (go_at_call 30; refine (HZ6.out _).mono ?_; rintro e wd ⟨rfl, hb⟩; have HSd := Lib.hid (HSc.out.on hb); have HWd := Lib.hid (below_then HWc.out hb); have HCd := Lib.hid (heap_on hb HCc.out); clear hb l0 l1 l2 l3 l4 l5 l6 l7 l8; obtain ⟨l0, l1, l2, l3, l4, l5, l6, l7, l8⟩ := HSd.out.lineC; refine Stop.out ?_)
    unfold Stop
    obtain ⟨k0, k1, k2, k3, k4, k5, k6, k7, k8⟩ := cellsLineV HCd.out
    have kf := frozen9 HCd.out 6 (by omega)
    go_wp2_with (refine wpList_store_row (o := ⟨none, _, _, _, _, _⟩) rfl 37 (.tmp 6) (.tmp 49) (by rfl) (w.heap.size + 1 + 1) #[.bool d.sale, .int .i64 su, .bool (ca == 5), .int .i64 0, .int .i64 0, .int .i64 (zn home d.country), .int .i64 (zn home pl), .bool false, .bool false] (by rfl) (by rfl) 37 #[.bool false, .int .i64 0, .bool false, .int .i64 0, .int .i64 0, .int .i64 0, .int .i64 0, .bool false, .bool false] (HSd.out.cell hG 6 (.int .i64 (zn home pl))).hr (by kernel_rfl) (by rfl) (by simp [Value.oneCell']) ?_; have HP9 := Lib.hid (setRow_heap (wd.setCell ⟨g, 6, none⟩ (.int .i64 (zn home pl))) (w.heap.size + 1 + 1) _ #[.bool d.sale, .int .i64 su, .bool (ca == 5), .int .i64 0, .int .i64 0, .int .i64 (zn home d.country), .int .i64 (zn home pl), .bool false, .bool false] _ _ (HSd.out.cell hG 6 (.int .i64 (zn home pl))).hr); have HB9 := Lib.hid (below_setRow (below_set (b := g) (o := 6) (x := .int .i64 (zn home pl)) (by omega) HWd.out) (g := w.heap.size + 1 + 1) (by omega) #[.bool d.sale, .int .i64 su, .bool (ca == 5), .int .i64 0, .int .i64 0, .int .i64 (zn home d.country), .int .i64 (zn home pl), .bool false, .bool false]); refine Stop.out ?_)
    clear k0 k1 k2 k3 k4 k5 k6 k7 k8
    unfold Stop
    generalize hx : World.setRow (wd.setCell ⟨g, 6, none⟩ (.int .i64 (zn home pl))) (w.heap.size + 1 + 1) _ = w9 at HP9 HB9 ⊢
    clear hx
    obtain ⟨j0, j1, j2, j3, j4, j5, j6, j7, j8⟩ := cellsLineV HP9.out
    go_wp2
    exact bodyPost_ret (v := .tuple #[.agg #[.bool d.sale, .int .i64 su, .bool (ca == 5), .int .i64 0, .int .i64 0, .int .i64 (zn home d.country), .int .i64 (zn home pl), .bool false, .bool false], .int .i64 0]) (by simp [results, Try.results15, go_sem, j0, j1, j2, j3, j4, j5, j6, j7, j8]) rfl ⟨rfl, HB9.out⟩
    
  · rw [if_pos (by rfl)]
    go_simp
    have HC1 := Lib.hid (heap_alloc_new wd (.cells #[.bool false, .int .i64 0, .bool false, .int .i64 0, .int .i64 0, .int .i64 0, .int .i64 0, .bool false, .bool false] 37))
    have hb := below_alloc wd (.cells #[.bool false, .int .i64 0, .bool false, .int .i64 0, .int .i64 0, .int .i64 0, .int .i64 0, .bool false, .bool false] 37)
    have HS1 := Lib.hid (HSd.out.on hb)
    have HW1 := Lib.hid (below_then HWd.out hb)
    clear hb
    have HG := Lib.hid (heapLt HSd.out.hr)
    generalize hx : World.alloc wd (.cells #[.bool false, .int .i64 0, .bool false, .int .i64 0, .int .i64 0, .int .i64 0, .int .i64 0, .bool false, .bool false] 37) = w1 at HC1 HS1 HW1 ⊢
    clear hx
    obtain ⟨g, hg⟩ : ∃ g, g = wd.heap.size := ⟨_, rfl⟩
    rw [← hg] at HC1 HG
    rw [← hg]
    clear hg
    refine hK.out _ _ (HS1.out) (fun hNew => ?_)
    clear hK K hHeld; (have hHeld := hNew); clear hNew; (try simp only [Act.put, List.setIfInBounds_toArray, List.set_cons_zero, List.set_cons_succ])
    refine aloneH (i := 10) rfl (by kernel_rfl) (fun K hK => ?_)
    rw [if_pos (by rfl)]
    go_simp; ((refine (HZ5.out _).mono ?_); (rintro e w2 ⟨rfl, hb⟩); have HS2 := Lib.hid (HS1.out.on hb); have HW2 := Lib.hid (below_then HW1.out hb); have HC2 := Lib.hid (heap_on hb HC1.out); clear hb; (try go_simp))
    refine hK.out _ _ (HS2.out) (fun hNew => ?_)
    clear hK K hHeld; (have hHeld := hNew); clear hNew; (try simp only [Act.put, List.setIfInBounds_toArray, List.set_cons_zero, List.set_cons_succ])
    (refine takeH (i := 11) (v := ?_) rfl (by kernel_rfl) (by kernel_rfl) (by kernel_rfl) (fun _ _ _ h => h) (Or.inl ⟨by rfl, ?_⟩) (by assumption) ?_; rotate_left; (focus ((intro wS hSw); (try dsimp only at hSw); (obtain ⟨s0, s1, s2, s3, s4, s5, s6, s7, s8⟩ := hSw.docC; obtain ⟨q0, q1, q2, q3, q4, q5, q6, q7, q8⟩ := hSw.lineC); go_simp; (try with_reducible rfl); done)); (try simp only [Act.put, List.setIfInBounds_toArray, List.set_cons_zero, List.set_cons_succ]))
    refine aloneH (i := 13) rfl (by kernel_rfl) (fun K hK => ?_)
    rw [if_pos (by rfl)]
    refine wp_store_row 37 (.tmp 9) (.tmp 29) (by rfl) g #[.bool d.sale, .int .i64 su, .bool (ca == 5), .int .i64 0, .int .i64 0, .int .i64 (zn home d.country), .int .i64 0, .bool false, .bool false] (by rfl) (by rfl) 37 #[.bool false, .int .i64 0, .bool false, .int .i64 0, .int .i64 0, .int .i64 0, .int .i64 0, .bool false, .bool false] HC2.out (by kernel_rfl) (by rfl) (by simp [Value.oneCell']) ?_
    have HS3 := Lib.hid (HS2.out.row HG.out #[.bool d.sale, .int .i64 su, .bool (ca == 5), .int .i64 0, .int .i64 0, .int .i64 (zn home d.country), .int .i64 0, .bool false, .bool false])
    have HW3 := Lib.hid (below_setRow HW2.out (g := g) (by have := HG.out; omega) #[.bool d.sale, .int .i64 su, .bool (ca == 5), .int .i64 0, .int .i64 0, .int .i64 (zn home d.country), .int .i64 0, .bool false, .bool false])
    have HC3 := Lib.hid (setRow_heap w2 g _ #[.bool d.sale, .int .i64 su, .bool (ca == 5), .int .i64 0, .int .i64 0, .int .i64 (zn home d.country), .int .i64 0, .bool false, .bool false] _ _ HC2.out)
    generalize hx : World.setRow w2 g _ = w3 at HS3 HW3 HC3 ⊢
    clear hx
    refine hK.out _ _ (HS3.out) (fun hNew => ?_)
    clear hK K hHeld; (have hHeld := hNew); clear hNew; (try simp only [Act.put])
    refine wpAnyH_done (by kernel_rfl) ?_ _
    clear hHeld
    have HSa := Lib.hid HS3.out
    have HWa := Lib.hid HW3.out
    have HCa := Lib.hid HC3.out
    clear HSd HWd HS1 HW1 HS2 HW2 HS3 HW3
    obtain ⟨l0, l1, l2, l3, l4, l5, l6, l7, l8⟩ := HSa.out.lineC
    have hG := HG.out
    go_wp2_with (go_at_call 17; refine (HMv.out _).mono ?_; rintro e wb ⟨rfl, hb⟩; have HSb := Lib.hid (HSa.out.on hb); have HWb := Lib.hid (below_then HWa.out hb); have HCb := Lib.hid (heap_on hb HCa.out); clear hb l0 l1 l2 l3 l4 l5 l6 l7 l8; obtain ⟨l0, l1, l2, l3, l4, l5, l6, l7, l8⟩ := HSb.out.lineC; refine Stop.out ?_)
    unfold Stop
    go_wp2_with (go_at_call 19; refine (HLc.out _).mono ?_; rintro e wc ⟨rfl, hb⟩; have HSc := Lib.hid (HSb.out.on hb); have HWc := Lib.hid (below_then HWb.out hb); have HCc := Lib.hid (heap_on hb HCb.out); clear hb l0 l1 l2 l3 l4 l5 l6 l7 l8; obtain ⟨l0, l1, l2, l3, l4, l5, l6, l7, l8⟩ := HSc.out.lineC; refine Stop.out ?_)
    unfold Stop
    go_wp2_with (go_at_call 30; refine (HZ6.out _).mono ?_; rintro e wd ⟨rfl, hb⟩; have HSd := Lib.hid (HSc.out.on hb); have HWd := Lib.hid (below_then HWc.out hb); have HCd := Lib.hid (heap_on hb HCc.out); clear hb l0 l1 l2 l3 l4 l5 l6 l7 l8; obtain ⟨l0, l1, l2, l3, l4, l5, l6, l7, l8⟩ := HSd.out.lineC; refine Stop.out ?_)
    unfold Stop
    obtain ⟨k0, k1, k2, k3, k4, k5, k6, k7, k8⟩ := cellsLineV HCd.out
    have kf := frozen9 HCd.out 6 (by omega)
    go_wp2_with (refine wpList_store_row (o := ⟨none, _, _, _, _, _⟩) rfl 37 (.tmp 6) (.tmp 49) (by rfl) (w.heap.size + 1 + 1) #[.bool d.sale, .int .i64 su, .bool (ca == 5), .int .i64 0, .int .i64 0, .int .i64 (zn home d.country), .int .i64 (zn home pl), .bool false, .bool false] (by rfl) (by rfl) 37 #[.bool false, .int .i64 0, .bool false, .int .i64 0, .int .i64 0, .int .i64 0, .int .i64 0, .bool false, .bool false] (HSd.out.cell hG 6 (.int .i64 (zn home pl))).hr (by kernel_rfl) (by rfl) (by simp [Value.oneCell']) ?_; have HP9 := Lib.hid (setRow_heap (wd.setCell ⟨g, 6, none⟩ (.int .i64 (zn home pl))) (w.heap.size + 1 + 1) _ #[.bool d.sale, .int .i64 su, .bool (ca == 5), .int .i64 0, .int .i64 0, .int .i64 (zn home d.country), .int .i64 (zn home pl), .bool false, .bool false] _ _ (HSd.out.cell hG 6 (.int .i64 (zn home pl))).hr); have HB9 := Lib.hid (below_setRow (below_set (b := g) (o := 6) (x := .int .i64 (zn home pl)) (by omega) HWd.out) (g := w.heap.size + 1 + 1) (by omega) #[.bool d.sale, .int .i64 su, .bool (ca == 5), .int .i64 0, .int .i64 0, .int .i64 (zn home d.country), .int .i64 (zn home pl), .bool false, .bool false]); refine Stop.out ?_)
    clear k0 k1 k2 k3 k4 k5 k6 k7 k8
    unfold Stop
    generalize hx : World.setRow (wd.setCell ⟨g, 6, none⟩ (.int .i64 (zn home pl))) (w.heap.size + 1 + 1) _ = w9 at HP9 HB9 ⊢
    clear hx
    obtain ⟨j0, j1, j2, j3, j4, j5, j6, j7, j8⟩ := cellsLineV HP9.out
    go_wp2
    exact bodyPost_ret (v := .tuple #[.agg #[.bool d.sale, .int .i64 su, .bool (ca == 5), .int .i64 0, .int .i64 0, .int .i64 (zn home d.country), .int .i64 (zn home pl), .bool false, .bool false], .int .i64 0]) (by simp [results, Try.results15, go_sem, j0, j1, j2, j3, j4, j5, j6, j7, j8]) rfl ⟨rfl, HB9.out⟩
    
set_option maxHeartbeats 4000000 in
theorem ref_case_non (home : ByteArray) (d : DocV) (su ca : Int) (fr to_ pl : ByteArray) (am : Int) (gr : Bool) (co : Int) (mi : Bool) (w : World) (HWr : Hid (∀ W, Calls Try.prog 29 #[.string home, .agg #[.string d.id, .bool d.sale, .bool d.credit, .string d.refers, .int .i64 d.day, .string d.country, .string d.number, .string d.currency, .slice d.linesA d.lines.length d.linesC], .agg #[.int .i64 su, .int .i64 ca, .string fr, .string to_, .string pl, .int .i64 am, .bool gr, .int .i64 co, .bool mi]] W fun e w1 => e = .returned (.int .i64 0) ∧ Below W.heap.size W w1)) (HZ5 : Hid (∀ W, Calls Try.prog 30 #[.string home, .string d.country] W fun e w1 => e = .returned (.int .i64 (zn home d.country)) ∧ Below W.heap.size W w1)) (hmv : movB su = false) (hlc : locB su = false) : Calls Try.prog 15 #[.string home, .agg #[.string d.id, .bool d.sale, .bool d.credit, .string d.refers, .int .i64 d.day, .string d.country, .string d.number, .string d.currency, .slice d.linesA d.lines.length d.linesC], .agg #[.int .i64 su, .int .i64 ca, .string fr, .string to_, .string pl, .int .i64 am, .bool gr, .int .i64 co, .bool mi]] w fun e w1 => e = .returned (.tuple #[.agg #[.bool d.sale, .int .i64 su, .bool (ca == 5), .int .i64 0, .int .i64 0, .int .i64 (zn home d.country), .int .i64 0, .bool false, .bool false], .int .i64 0]) ∧ Below w.heap.size w w1 := by
  have HMv : Hid (∀ W, Calls Try.prog 17 #[.agg #[.int .i64 su, .int .i64 ca, .string fr, .string to_, .string pl, .int .i64 am, .bool gr, .int .i64 co, .bool mi]] W fun e w1 => e = .returned (.bool false) ∧ Below W.heap.size W w1) := Lib.hid (fun W => (ref_moved su ca fr to_ pl am gr co mi W).mono (fun e w1 h => ⟨by rw [h.1, hmv], by rw [h.2]; exact below_alloc _ _⟩))
  have HLc : Hid (∀ W, Calls Try.prog 19 #[.agg #[.int .i64 su, .int .i64 ca, .string fr, .string to_, .string pl, .int .i64 am, .bool gr, .int .i64 co, .bool mi]] W fun e w1 => e = .returned (.bool false) ∧ Below W.heap.size W w1) := Lib.hid (fun W => (ref_local su ca fr to_ pl am gr co mi W).mono (fun e w1 h => ⟨by rw [h.1, hlc], by rw [h.2]; exact below_alloc _ _⟩))
  clear hmv hlc
  go_enter Try.func15, Try.ntmps15
  go_wp2_with ((go_at_call 29; refine (HWr.out _).mono ?_; rintro e w1 ⟨rfl, hb⟩; have HS1 := Lib.hid ((refS_start w d su ca fr to_ pl am gr co mi).on hb); have HW1 := Lib.hid (Below.trans (show Below w.heap.size w _ by repeat (first | exact below_alloc _ _ | exact below_same _ | assumption | refine below_more ?_)) (hb.mono (show w.heap.size ≤ _ by simp; try omega))); clear hb; obtain ⟨d0, d1, d2, d3, d4, d5, d6, d7, d8⟩ := HS1.out.docC; obtain ⟨l0, l1, l2, l3, l4, l5, l6, l7, l8⟩ := HS1.out.lineC))
  have HSd := Lib.hid (HS1.out.on (below_drew _))
  have HWd := Lib.hid (below_then HW1.out (below_drew _))
  refine wp_region_held_drew (S := fun V => RefS w.heap.size d su ca fr to_ pl am gr co mi V) (by kernel_rfl) HSd.out ?_
  intro hHeld
  clear HS1 HW1 d0 d1 d2 d3 d4 d5 d6 d7 d8 l0 l1 l2 l3 l4 l5 l6 l7 l8
  generalize World.drew _ = wd at HSd HWd hHeld ⊢
  (refine takeH (i := 0) (v := ?_) rfl (by kernel_rfl) (by kernel_rfl) (by kernel_rfl) (fun _ _ _ h => h) (Or.inl ⟨by rfl, ?_⟩) (by assumption) ?_; rotate_left; (focus ((intro wS hSw); (try dsimp only at hSw); (obtain ⟨s0, s1, s2, s3, s4, s5, s6, s7, s8⟩ := hSw.docC; obtain ⟨q0, q1, q2, q3, q4, q5, q6, q7, q8⟩ := hSw.lineC); go_simp; (try with_reducible rfl); done)); (try simp only [Act.put, List.setIfInBounds_toArray, List.set_cons_zero, List.set_cons_succ]))
  (refine takeH (i := 1) (v := ?_) rfl (by kernel_rfl) (by kernel_rfl) (by kernel_rfl) (fun _ _ _ h => h) (Or.inl ⟨by rfl, ?_⟩) (by assumption) ?_; rotate_left; (focus ((intro wS hSw); (try dsimp only at hSw); (obtain ⟨s0, s1, s2, s3, s4, s5, s6, s7, s8⟩ := hSw.docC; obtain ⟨q0, q1, q2, q3, q4, q5, q6, q7, q8⟩ := hSw.lineC); go_simp; (try with_reducible rfl); done)); (try simp only [Act.put, List.setIfInBounds_toArray, List.set_cons_zero, List.set_cons_succ]))
  (refine takeH (i := 2) (v := ?_) rfl (by kernel_rfl) (by kernel_rfl) (by kernel_rfl) (fun _ _ _ h => h) (Or.inl ⟨by rfl, ?_⟩) (by assumption) ?_; rotate_left; (focus ((intro wS hSw); (try dsimp only at hSw); (obtain ⟨s0, s1, s2, s3, s4, s5, s6, s7, s8⟩ := hSw.docC; obtain ⟨q0, q1, q2, q3, q4, q5, q6, q7, q8⟩ := hSw.lineC); go_simp; (try with_reducible rfl); done)); (try simp only [Act.put, List.setIfInBounds_toArray, List.set_cons_zero, List.set_cons_succ]))
  (refine takeH (i := 3) (v := ?_) rfl (by kernel_rfl) (by kernel_rfl) (by kernel_rfl) (fun _ _ _ h => h) (Or.inl ⟨by rfl, ?_⟩) (by assumption) ?_; rotate_left; (focus ((intro wS hSw); (try dsimp only at hSw); (obtain ⟨s0, s1, s2, s3, s4, s5, s6, s7, s8⟩ := hSw.docC; obtain ⟨q0, q1, q2, q3, q4, q5, q6, q7, q8⟩ := hSw.lineC); go_simp; (try with_reducible rfl); done)); (try simp only [Act.put, List.setIfInBounds_toArray, List.set_cons_zero, List.set_cons_succ]))
  (refine takeH (i := 4) (v := ?_) rfl (by kernel_rfl) (by kernel_rfl) (by kernel_rfl) (fun _ _ _ h => h) (Or.inl ⟨by rfl, ?_⟩) (by assumption) ?_; rotate_left; (focus ((intro wS hSw); (try dsimp only at hSw); (obtain ⟨s0, s1, s2, s3, s4, s5, s6, s7, s8⟩ := hSw.docC; obtain ⟨q0, q1, q2, q3, q4, q5, q6, q7, q8⟩ := hSw.lineC); go_simp; (try with_reducible rfl); done)); (try simp only [Act.put, List.setIfInBounds_toArray, List.set_cons_zero, List.set_cons_succ]))
  (refine takeH (i := 5) (v := ?_) rfl (by kernel_rfl) (by kernel_rfl) (by kernel_rfl) (fun _ _ _ h => h) (Or.inl ⟨by rfl, ?_⟩) (by assumption) ?_; rotate_left; (focus ((intro wS hSw); (try dsimp only at hSw); (obtain ⟨s0, s1, s2, s3, s4, s5, s6, s7, s8⟩ := hSw.docC; obtain ⟨q0, q1, q2, q3, q4, q5, q6, q7, q8⟩ := hSw.lineC); go_simp; (try with_reducible rfl); done)); (try simp only [Act.put, List.setIfInBounds_toArray, List.set_cons_zero, List.set_cons_succ]))
  (refine takeH (i := 6) (v := ?_) rfl (by kernel_rfl) (by kernel_rfl) (by kernel_rfl) (fun _ _ _ h => h) (Or.inl ⟨by rfl, ?_⟩) (by assumption) ?_; rotate_left; (focus ((intro wS hSw); (try dsimp only at hSw); (obtain ⟨s0, s1, s2, s3, s4, s5, s6, s7, s8⟩ := hSw.docC; obtain ⟨q0, q1, q2, q3, q4, q5, q6, q7, q8⟩ := hSw.lineC); go_simp; (try with_reducible rfl); done)); (try simp only [Act.put, List.setIfInBounds_toArray, List.set_cons_zero, List.set_cons_succ]))
  (refine takeH (i := 7) (v := ?_) rfl (by kernel_rfl) (by kernel_rfl) (by kernel_rfl) (fun _ _ _ h => h) (Or.inl ⟨by rfl, ?_⟩) (by assumption) ?_; rotate_left; (focus ((intro wS hSw); (try dsimp only at hSw); (obtain ⟨s0, s1, s2, s3, s4, s5, s6, s7, s8⟩ := hSw.docC; obtain ⟨q0, q1, q2, q3, q4, q5, q6, q7, q8⟩ := hSw.lineC); go_simp; (try with_reducible rfl); done)); (try simp only [Act.put, List.setIfInBounds_toArray, List.set_cons_zero, List.set_cons_succ]))
  (refine takeH (i := 8) (v := ?_) rfl (by kernel_rfl) (by kernel_rfl) (by kernel_rfl) (fun _ _ _ h => h) (Or.inl ⟨by rfl, ?_⟩) (by assumption) ?_; rotate_left; (focus ((intro wS hSw); (try dsimp only at hSw); (obtain ⟨s0, s1, s2, s3, s4, s5, s6, s7, s8⟩ := hSw.docC; obtain ⟨q0, q1, q2, q3, q4, q5, q6, q7, q8⟩ := hSw.lineC); go_simp; (try with_reducible rfl); done)); (try simp only [Act.put, List.setIfInBounds_toArray, List.set_cons_zero, List.set_cons_succ]))
  (refine takeH (i := 9) (v := ?_) rfl (by kernel_rfl) (by kernel_rfl) (by kernel_rfl) (fun _ _ _ h => h) (Or.inl ⟨by rfl, ?_⟩) (by assumption) ?_; rotate_left; (focus ((intro wS hSw); (try dsimp only at hSw); (obtain ⟨s0, s1, s2, s3, s4, s5, s6, s7, s8⟩ := hSw.docC; obtain ⟨q0, q1, q2, q3, q4, q5, q6, q7, q8⟩ := hSw.lineC); go_simp; (try with_reducible rfl); done)); (try simp only [Act.put, List.setIfInBounds_toArray, List.set_cons_zero, List.set_cons_succ]))
  refine twoH (i := 10) (i2 := 12) rfl rfl (by kernel_rfl) (fun K hK => ?_) (fun K hK => ?_)
  · rw [if_pos (by rfl)]
    go_simp; ((refine (HZ5.out _).mono ?_); (rintro e w1 ⟨rfl, hb⟩); have HS1 := Lib.hid (HSd.out.on hb); have HW1 := Lib.hid (below_then HWd.out hb); clear hb; (try go_simp))
    refine hK.out _ _ (HS1.out) (fun hNew => ?_)
    clear hK K hHeld; (have hHeld := hNew); clear hNew; (try simp only [Act.put, List.setIfInBounds_toArray, List.set_cons_zero, List.set_cons_succ])
    (refine takeH (i := 11) (v := ?_) rfl (by kernel_rfl) (by kernel_rfl) (by kernel_rfl) (fun _ _ _ h => h) (Or.inl ⟨by rfl, ?_⟩) (by assumption) ?_; rotate_left; (focus ((intro wS hSw); (try dsimp only at hSw); (obtain ⟨s0, s1, s2, s3, s4, s5, s6, s7, s8⟩ := hSw.docC; obtain ⟨q0, q1, q2, q3, q4, q5, q6, q7, q8⟩ := hSw.lineC); go_simp; (try with_reducible rfl); done)); (try simp only [Act.put, List.setIfInBounds_toArray, List.set_cons_zero, List.set_cons_succ]))
    refine aloneH (i := 12) rfl (by kernel_rfl) (fun K hK => ?_)
    rw [if_pos (by rfl)]
    go_simp
    have HC2 := Lib.hid (heap_alloc_new w1 (.cells #[.bool false, .int .i64 0, .bool false, .int .i64 0, .int .i64 0, .int .i64 0, .int .i64 0, .bool false, .bool false] 37))
    have hb := below_alloc w1 (.cells #[.bool false, .int .i64 0, .bool false, .int .i64 0, .int .i64 0, .int .i64 0, .int .i64 0, .bool false, .bool false] 37)
    have HS2 := Lib.hid (HS1.out.on hb)
    have HW2 := Lib.hid (below_then HW1.out hb)
    clear hb
    have HG := Lib.hid (heapLt HS1.out.hr)
    generalize hx : World.alloc w1 (.cells #[.bool false, .int .i64 0, .bool false, .int .i64 0, .int .i64 0, .int .i64 0, .int .i64 0, .bool false, .bool false] 37) = w2 at HC2 HS2 HW2 ⊢
    clear hx
    obtain ⟨g, hg⟩ : ∃ g, g = w1.heap.size := ⟨_, rfl⟩
    rw [← hg] at HC2 HG
    rw [← hg]
    clear hg
    refine hK.out _ _ (HS2.out) (fun hNew => ?_)
    clear hK K hHeld; (have hHeld := hNew); clear hNew; (try simp only [Act.put, List.setIfInBounds_toArray, List.set_cons_zero, List.set_cons_succ])
    refine aloneH (i := 13) rfl (by kernel_rfl) (fun K hK => ?_)
    rw [if_pos (by rfl)]
    refine wp_store_row 37 (.tmp 9) (.tmp 29) (by rfl) g #[.bool d.sale, .int .i64 su, .bool (ca == 5), .int .i64 0, .int .i64 0, .int .i64 (zn home d.country), .int .i64 0, .bool false, .bool false] (by rfl) (by rfl) 37 #[.bool false, .int .i64 0, .bool false, .int .i64 0, .int .i64 0, .int .i64 0, .int .i64 0, .bool false, .bool false] HC2.out (by kernel_rfl) (by rfl) (by simp [Value.oneCell']) ?_
    have HS3 := Lib.hid (HS2.out.row HG.out #[.bool d.sale, .int .i64 su, .bool (ca == 5), .int .i64 0, .int .i64 0, .int .i64 (zn home d.country), .int .i64 0, .bool false, .bool false])
    have HW3 := Lib.hid (below_setRow HW2.out (g := g) (by have := HG.out; omega) #[.bool d.sale, .int .i64 su, .bool (ca == 5), .int .i64 0, .int .i64 0, .int .i64 (zn home d.country), .int .i64 0, .bool false, .bool false])
    have HC3 := Lib.hid (setRow_heap w2 g _ #[.bool d.sale, .int .i64 su, .bool (ca == 5), .int .i64 0, .int .i64 0, .int .i64 (zn home d.country), .int .i64 0, .bool false, .bool false] _ _ HC2.out)
    generalize hx : World.setRow w2 g _ = w3 at HS3 HW3 HC3 ⊢
    clear hx
    refine hK.out _ _ (HS3.out) (fun hNew => ?_)
    clear hK K hHeld; (have hHeld := hNew); clear hNew; (try simp only [Act.put])
    refine wpAnyH_done (by kernel_rfl) ?_ _
    clear hHeld
    have HSa := Lib.hid HS3.out
    have HWa := Lib.hid HW3.out
    have HCa := Lib.hid HC3.out
    clear HSd HWd HS1 HW1 HS2 HW2 HS3 HW3
    obtain ⟨l0, l1, l2, l3, l4, l5, l6, l7, l8⟩ := HSa.out.lineC
    have hG := HG.out
    go_wp2_with (go_at_call 17; refine (HMv.out _).mono ?_; rintro e wb ⟨rfl, hb⟩; have HSb := Lib.hid (HSa.out.on hb); have HWb := Lib.hid (below_then HWa.out hb); have HCb := Lib.hid (heap_on hb HCa.out); clear hb l0 l1 l2 l3 l4 l5 l6 l7 l8; obtain ⟨l0, l1, l2, l3, l4, l5, l6, l7, l8⟩ := HSb.out.lineC; refine Stop.out ?_)
    unfold Stop
    go_wp2_with (go_at_call 19; refine (HLc.out _).mono ?_; rintro e wc ⟨rfl, hb⟩; have HSc := Lib.hid (HSb.out.on hb); have HWc := Lib.hid (below_then HWb.out hb); have HCc := Lib.hid (heap_on hb HCb.out); clear hb l0 l1 l2 l3 l4 l5 l6 l7 l8; obtain ⟨l0, l1, l2, l3, l4, l5, l6, l7, l8⟩ := HSc.out.lineC; refine Stop.out ?_)
    unfold Stop
    obtain ⟨k0, k1, k2, k3, k4, k5, k6, k7, k8⟩ := cellsLineV HCc.out
    go_wp2_with (refine wpList_store_row (o := ⟨none, _, _, _, _, _⟩) rfl 37 (.tmp 6) (.tmp 49) (by rfl) (w.heap.size + 1 + 1) #[.bool d.sale, .int .i64 su, .bool (ca == 5), .int .i64 0, .int .i64 0, .int .i64 (zn home d.country), .int .i64 0, .bool false, .bool false] (by rfl) (by rfl) 37 #[.bool false, .int .i64 0, .bool false, .int .i64 0, .int .i64 0, .int .i64 0, .int .i64 0, .bool false, .bool false] HSc.out.hr (by kernel_rfl) (by rfl) (by simp [Value.oneCell']) ?_; have HP9 := Lib.hid (setRow_heap wc (w.heap.size + 1 + 1) _ #[.bool d.sale, .int .i64 su, .bool (ca == 5), .int .i64 0, .int .i64 0, .int .i64 (zn home d.country), .int .i64 0, .bool false, .bool false] _ _ HSc.out.hr); have HB9 := Lib.hid (below_setRow HWc.out (g := w.heap.size + 1 + 1) (by omega) #[.bool d.sale, .int .i64 su, .bool (ca == 5), .int .i64 0, .int .i64 0, .int .i64 (zn home d.country), .int .i64 0, .bool false, .bool false]); refine Stop.out ?_)
    clear k0 k1 k2 k3 k4 k5 k6 k7 k8
    unfold Stop
    generalize hx : World.setRow wc (w.heap.size + 1 + 1) _ = w9 at HP9 HB9 ⊢
    clear hx
    obtain ⟨j0, j1, j2, j3, j4, j5, j6, j7, j8⟩ := cellsLineV HP9.out
    go_wp2
    exact bodyPost_ret (v := .tuple #[.agg #[.bool d.sale, .int .i64 su, .bool (ca == 5), .int .i64 0, .int .i64 0, .int .i64 (zn home d.country), .int .i64 0, .bool false, .bool false], .int .i64 0]) (by simp [results, Try.results15, go_sem, j0, j1, j2, j3, j4, j5, j6, j7, j8]) rfl ⟨rfl, HB9.out⟩
    
  · rw [if_pos (by rfl)]
    go_simp
    have HC1 := Lib.hid (heap_alloc_new wd (.cells #[.bool false, .int .i64 0, .bool false, .int .i64 0, .int .i64 0, .int .i64 0, .int .i64 0, .bool false, .bool false] 37))
    have hb := below_alloc wd (.cells #[.bool false, .int .i64 0, .bool false, .int .i64 0, .int .i64 0, .int .i64 0, .int .i64 0, .bool false, .bool false] 37)
    have HS1 := Lib.hid (HSd.out.on hb)
    have HW1 := Lib.hid (below_then HWd.out hb)
    clear hb
    have HG := Lib.hid (heapLt HSd.out.hr)
    generalize hx : World.alloc wd (.cells #[.bool false, .int .i64 0, .bool false, .int .i64 0, .int .i64 0, .int .i64 0, .int .i64 0, .bool false, .bool false] 37) = w1 at HC1 HS1 HW1 ⊢
    clear hx
    obtain ⟨g, hg⟩ : ∃ g, g = wd.heap.size := ⟨_, rfl⟩
    rw [← hg] at HC1 HG
    rw [← hg]
    clear hg
    refine hK.out _ _ (HS1.out) (fun hNew => ?_)
    clear hK K hHeld; (have hHeld := hNew); clear hNew; (try simp only [Act.put, List.setIfInBounds_toArray, List.set_cons_zero, List.set_cons_succ])
    refine aloneH (i := 10) rfl (by kernel_rfl) (fun K hK => ?_)
    rw [if_pos (by rfl)]
    go_simp; ((refine (HZ5.out _).mono ?_); (rintro e w2 ⟨rfl, hb⟩); have HS2 := Lib.hid (HS1.out.on hb); have HW2 := Lib.hid (below_then HW1.out hb); have HC2 := Lib.hid (heap_on hb HC1.out); clear hb; (try go_simp))
    refine hK.out _ _ (HS2.out) (fun hNew => ?_)
    clear hK K hHeld; (have hHeld := hNew); clear hNew; (try simp only [Act.put, List.setIfInBounds_toArray, List.set_cons_zero, List.set_cons_succ])
    (refine takeH (i := 11) (v := ?_) rfl (by kernel_rfl) (by kernel_rfl) (by kernel_rfl) (fun _ _ _ h => h) (Or.inl ⟨by rfl, ?_⟩) (by assumption) ?_; rotate_left; (focus ((intro wS hSw); (try dsimp only at hSw); (obtain ⟨s0, s1, s2, s3, s4, s5, s6, s7, s8⟩ := hSw.docC; obtain ⟨q0, q1, q2, q3, q4, q5, q6, q7, q8⟩ := hSw.lineC); go_simp; (try with_reducible rfl); done)); (try simp only [Act.put, List.setIfInBounds_toArray, List.set_cons_zero, List.set_cons_succ]))
    refine aloneH (i := 13) rfl (by kernel_rfl) (fun K hK => ?_)
    rw [if_pos (by rfl)]
    refine wp_store_row 37 (.tmp 9) (.tmp 29) (by rfl) g #[.bool d.sale, .int .i64 su, .bool (ca == 5), .int .i64 0, .int .i64 0, .int .i64 (zn home d.country), .int .i64 0, .bool false, .bool false] (by rfl) (by rfl) 37 #[.bool false, .int .i64 0, .bool false, .int .i64 0, .int .i64 0, .int .i64 0, .int .i64 0, .bool false, .bool false] HC2.out (by kernel_rfl) (by rfl) (by simp [Value.oneCell']) ?_
    have HS3 := Lib.hid (HS2.out.row HG.out #[.bool d.sale, .int .i64 su, .bool (ca == 5), .int .i64 0, .int .i64 0, .int .i64 (zn home d.country), .int .i64 0, .bool false, .bool false])
    have HW3 := Lib.hid (below_setRow HW2.out (g := g) (by have := HG.out; omega) #[.bool d.sale, .int .i64 su, .bool (ca == 5), .int .i64 0, .int .i64 0, .int .i64 (zn home d.country), .int .i64 0, .bool false, .bool false])
    have HC3 := Lib.hid (setRow_heap w2 g _ #[.bool d.sale, .int .i64 su, .bool (ca == 5), .int .i64 0, .int .i64 0, .int .i64 (zn home d.country), .int .i64 0, .bool false, .bool false] _ _ HC2.out)
    generalize hx : World.setRow w2 g _ = w3 at HS3 HW3 HC3 ⊢
    clear hx
    refine hK.out _ _ (HS3.out) (fun hNew => ?_)
    clear hK K hHeld; (have hHeld := hNew); clear hNew; (try simp only [Act.put])
    refine wpAnyH_done (by kernel_rfl) ?_ _
    clear hHeld
    have HSa := Lib.hid HS3.out
    have HWa := Lib.hid HW3.out
    have HCa := Lib.hid HC3.out
    clear HSd HWd HS1 HW1 HS2 HW2 HS3 HW3
    obtain ⟨l0, l1, l2, l3, l4, l5, l6, l7, l8⟩ := HSa.out.lineC
    have hG := HG.out
    go_wp2_with (go_at_call 17; refine (HMv.out _).mono ?_; rintro e wb ⟨rfl, hb⟩; have HSb := Lib.hid (HSa.out.on hb); have HWb := Lib.hid (below_then HWa.out hb); have HCb := Lib.hid (heap_on hb HCa.out); clear hb l0 l1 l2 l3 l4 l5 l6 l7 l8; obtain ⟨l0, l1, l2, l3, l4, l5, l6, l7, l8⟩ := HSb.out.lineC; refine Stop.out ?_)
    unfold Stop
    go_wp2_with (go_at_call 19; refine (HLc.out _).mono ?_; rintro e wc ⟨rfl, hb⟩; have HSc := Lib.hid (HSb.out.on hb); have HWc := Lib.hid (below_then HWb.out hb); have HCc := Lib.hid (heap_on hb HCb.out); clear hb l0 l1 l2 l3 l4 l5 l6 l7 l8; obtain ⟨l0, l1, l2, l3, l4, l5, l6, l7, l8⟩ := HSc.out.lineC; refine Stop.out ?_)
    unfold Stop
    obtain ⟨k0, k1, k2, k3, k4, k5, k6, k7, k8⟩ := cellsLineV HCc.out
    go_wp2_with (refine wpList_store_row (o := ⟨none, _, _, _, _, _⟩) rfl 37 (.tmp 6) (.tmp 49) (by rfl) (w.heap.size + 1 + 1) #[.bool d.sale, .int .i64 su, .bool (ca == 5), .int .i64 0, .int .i64 0, .int .i64 (zn home d.country), .int .i64 0, .bool false, .bool false] (by rfl) (by rfl) 37 #[.bool false, .int .i64 0, .bool false, .int .i64 0, .int .i64 0, .int .i64 0, .int .i64 0, .bool false, .bool false] HSc.out.hr (by kernel_rfl) (by rfl) (by simp [Value.oneCell']) ?_; have HP9 := Lib.hid (setRow_heap wc (w.heap.size + 1 + 1) _ #[.bool d.sale, .int .i64 su, .bool (ca == 5), .int .i64 0, .int .i64 0, .int .i64 (zn home d.country), .int .i64 0, .bool false, .bool false] _ _ HSc.out.hr); have HB9 := Lib.hid (below_setRow HWc.out (g := w.heap.size + 1 + 1) (by omega) #[.bool d.sale, .int .i64 su, .bool (ca == 5), .int .i64 0, .int .i64 0, .int .i64 (zn home d.country), .int .i64 0, .bool false, .bool false]); refine Stop.out ?_)
    clear k0 k1 k2 k3 k4 k5 k6 k7 k8
    unfold Stop
    generalize hx : World.setRow wc (w.heap.size + 1 + 1) _ = w9 at HP9 HB9 ⊢
    clear hx
    obtain ⟨j0, j1, j2, j3, j4, j5, j6, j7, j8⟩ := cellsLineV HP9.out
    go_wp2
    exact bodyPost_ret (v := .tuple #[.agg #[.bool d.sale, .int .i64 su, .bool (ca == 5), .int .i64 0, .int .i64 0, .int .i64 (zn home d.country), .int .i64 0, .bool false, .bool false], .int .i64 0]) (by simp [results, Try.results15, go_sem, j0, j1, j2, j3, j4, j5, j6, j7, j8]) rfl ⟨rfl, HB9.out⟩
    
end Go.Proofs.Ytdpafndejobbjaa
