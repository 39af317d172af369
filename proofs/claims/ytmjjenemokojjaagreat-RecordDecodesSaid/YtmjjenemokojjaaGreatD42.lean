/- Commands: what may be: the document's, by what it calls. The chapter's document as bytes: Encode. -/
import Derived.Test.YtmjjenemokojjaaGreatD37
import Derived.WalkMore
import Derived.Test.YtmjjenemokojjaaGreatD38
import Derived.Test.YtmjjenemokojjaaGreatD41
namespace Go.Proofs.YtmjjenemokojjaaGreat
open Go.RowKit
set_option maxRecDepth 100000
set_option linter.unusedSimpArgs false
set_option linter.unusedVariables false

set_option maxHeartbeats 4000000 in
theorem refGood_9 (cs u : Array Value) (x : CmdV) (V : Bool) (w : World) (hs : cs.size = 22) (h0 : cs[0]? = some (.int .i64 9)) (h5 : cs[5]? = some (.int .i64 x.from_)) (h6 : cs[6]? = some (.int .i64 x.until_)) (h10 : cs[10]? = some (.int .i64 x.pk)) (h11 : cs[11]? = some (.int .i64 x.py)) (h12 : cs[12]? = some (.int .i64 x.pi)) (HU : Hid (∀ W, Calls Tryz.prog 23 #[.agg cs] W fun e w1 => e = .returned (.agg u) ∧ Below W.heap.size W w1)) (HSm : Hid (∀ W, Below w.heap.size w W → Calls Tryz.prog 17 #[.agg cs, .agg u] W fun e w1 => e = .returned (.bool true) ∧ Below W.heap.size W w1)) (hV : (Civ.good x.pk x.py x.pi && inB x.pk 1 2) = V) : Calls Tryz.prog 9 #[.agg cs] w fun e w1 => e = .returned (.bool V) ∧ Below w.heap.size w w1 := by
 have HH := Lib.hid (And.intro h0 (And.intro h5 (And.intro h6 (And.intro h10 (And.intro h11 (h12))))))
 clear h0 h5 h6 h10 h11 h12
 have HGo : Hid (∀ W, Calls Tryz.prog 25 #[.agg #[.int .i64 x.pk, .int .i64 x.py, .int .i64 x.pi]] W fun e w1 => e = .returned (.bool (Civ.good x.pk x.py x.pi)) ∧ Below W.heap.size W w1) := Lib.hid (fun W => Civs.ref_good x.pk x.py x.pi W)
 generalize Civ.good x.pk x.py x.pi = gd at HGo hV
 have HV := Lib.hid hV
 clear hV
 have HXd := Lib.hid (heap_on (below_drew _) (heap_alloc_new w (.cells cs 28)))
 have HWd := Lib.hid (below_then (below_alloc w (.cells cs 28)) (below_drew _))
 have HI := Lib.hid (cmd_info hs)
 clear hs
 go_enter Tryz.func9, Tryz.ntmps9
 go_wp2
 refine wp_region_held_drew (S := fun V => V.heap[w.heap.size]? = some (.cells cs 28 (0, 0))) (by kernel_rfl) HXd.out ?_
 intro hHeld
 clear HXd
 generalize World.drew _ = wd at HWd hHeld ⊢
 (refine takeH (i := 0) (v := .agg cs) rfl (by kernel_rfl) (by kernel_rfl) (by kernel_rfl) (fun _ _ _ h => h) (Or.inl ⟨by rfl, fun wS hSw => exec_load_row 28 (.tmp 1) rfl w.heap.size rfl 28 cs (0, 0) _ hSw Tryz.underlying28 rfl HI.out⟩) (by assumption) ?_; (try simp only [Act.put, pA, pB, pC]))
 (refine takeH (i := 1) (v := .agg cs) rfl (by kernel_rfl) (by kernel_rfl) (by kernel_rfl) (fun _ _ _ h => h) (Or.inl ⟨by rfl, fun wS hSw => exec_load_row 28 (.tmp 1) rfl w.heap.size rfl 28 cs (0, 0) _ hSw Tryz.underlying28 rfl HI.out⟩) (by assumption) ?_; (try simp only [Act.put, pA, pB, pC]))
 refine aloneH (i := 2) rfl (by kernel_rfl) (fun K hK => ?_)
 rw [if_pos (by rfl)]
 go_simp; ((refine (HU.out _).mono ?_); (rintro e w1 ⟨rfl, hb⟩); have HB1 := Lib.hid hb; clear hb; (try go_simp))
 refine hK.out _ _ (heap_on HB1.out hHeld) ?_
 clear hK K hHeld; intro hHeld; (try simp only [Act.put, pA, pB, pC])
 refine aloneH (i := 3) rfl (by kernel_rfl) (fun K hK => ?_)
 rw [if_pos (by rfl)]
 go_simp; ((refine (HSm.out _ (below_then HWd.out HB1.out)).mono ?_); (rintro e w2 ⟨rfl, hb⟩); have HB2 := Lib.hid hb; clear hb; (try go_simp))
 refine hK.out _ _ (heap_on HB2.out hHeld) ?_
 clear hK K hHeld; intro hHeld; (try simp only [Act.put, pA, pB, pC])
 (refine takeP (i := 4) ?_ rfl (.inl ⟨by rfl, ?_⟩) ?_; rotate_left; (focus ((intro wS hSw); (try dsimp only at hSw); have s0 := hSw; go_simp; (try with_reducible rfl); done)); (try simp only [Act.put, pA, pB, pC]))
 refine wpAnyH_done (by kernel_rfl) ?_ _
 have HXa := Lib.hid hHeld
 have HBa := Lib.hid (below_then HWd.out (below_then HB1.out HB2.out))
 clear hHeld
 have k0 := (cell_of_row w2 w.heap.size 0 _ _ _ HXa.out).trans HH.out.1
 have k5 := (cell_of_row w2 w.heap.size 5 _ _ _ HXa.out).trans HH.out.2.1
 have k6 := (cell_of_row w2 w.heap.size 6 _ _ _ HXa.out).trans HH.out.2.2.1
 have k10 := (cell_of_row w2 w.heap.size 10 _ _ _ HXa.out).trans HH.out.2.2.2.1
 have k11 := (cell_of_row w2 w.heap.size 11 _ _ _ HXa.out).trans HH.out.2.2.2.2.1
 have k12 := (cell_of_row w2 w.heap.size 12 _ _ _ HXa.out).trans HH.out.2.2.2.2.2
 cases hA : inB x.from_ 0 2932896
 all_goals
  go_wp2_with (first | (go_at_call 24; refine (ref_in _ _ _ _).mono ?_; rintro e w6 ⟨rfl, rfl⟩) | (go_at_call 25; refine (HGo.out _).mono ?_; rintro e w8 ⟨rfl, hb⟩; clear k0 k5 k6 k10 k11 k12; have HXb := Lib.hid (heap_on hb HXa.out); have HBb := Lib.hid (below_then HBa.out hb); clear hb; have k0 := (cell_of_row w8 w.heap.size 0 _ _ _ HXb.out).trans HH.out.1; have k10 := (cell_of_row w8 w.heap.size 10 _ _ _ HXb.out).trans HH.out.2.2.2.1; have k11 := (cell_of_row w8 w.heap.size 11 _ _ _ HXb.out).trans HH.out.2.2.2.2.1; have k12 := (cell_of_row w8 w.heap.size 12 _ _ _ HXb.out).trans HH.out.2.2.2.2.2; refine Stop.out ?_))
  all_goals
   unfold Stop
   go_wp2_with (first | (go_at_call 24; refine (ref_in _ _ _ _).mono ?_; rintro e w6 ⟨rfl, rfl⟩))
   all_goals (go_ret; exact ⟨ret_bool (by rw [← HV.out]; clear HH HXa HBa HXb HBb HV; (try clear k0); (try clear k1); (try clear k2); (try clear k3); (try clear k4); (try clear k5); (try clear k6); (try clear k7); (try clear k8); (try clear k9); (try clear k10); (try clear k11); (try clear k12); (try clear k13); (try clear k14); (try clear k15); (try clear k16); (try clear k17); (try clear k18); (try clear k19); (try clear k20); (try clear k21); (try clear HXc HBc); simp_all), by first | exact HBc.out | exact HBb.out⟩)
set_option maxHeartbeats 4000000 in
theorem refGood_10 (cs u : Array Value) (x : CmdV) (V : Bool) (w : World) (hs : cs.size = 22) (h0 : cs[0]? = some (.int .i64 10)) (h5 : cs[5]? = some (.int .i64 x.from_)) (h6 : cs[6]? = some (.int .i64 x.until_)) (h10 : cs[10]? = some (.int .i64 x.pk)) (h11 : cs[11]? = some (.int .i64 x.py)) (h12 : cs[12]? = some (.int .i64 x.pi)) (HU : Hid (∀ W, Calls Tryz.prog 23 #[.agg cs] W fun e w1 => e = .returned (.agg u) ∧ Below W.heap.size W w1)) (HSm : Hid (∀ W, Below w.heap.size w W → Calls Tryz.prog 17 #[.agg cs, .agg u] W fun e w1 => e = .returned (.bool true) ∧ Below W.heap.size W w1)) (hV : (Civ.good x.pk x.py x.pi && inB x.pk 1 2) = V) : Calls Tryz.prog 9 #[.agg cs] w fun e w1 => e = .returned (.bool V) ∧ Below w.heap.size w w1 := by
 have HH := Lib.hid (And.intro h0 (And.intro h5 (And.intro h6 (And.intro h10 (And.intro h11 (h12))))))
 clear h0 h5 h6 h10 h11 h12
 have HGo : Hid (∀ W, Calls Tryz.prog 25 #[.agg #[.int .i64 x.pk, .int .i64 x.py, .int .i64 x.pi]] W fun e w1 => e = .returned (.bool (Civ.good x.pk x.py x.pi)) ∧ Below W.heap.size W w1) := Lib.hid (fun W => Civs.ref_good x.pk x.py x.pi W)
 generalize Civ.good x.pk x.py x.pi = gd at HGo hV
 have HV := Lib.hid hV
 clear hV
 have HXd := Lib.hid (heap_on (below_drew _) (heap_alloc_new w (.cells cs 28)))
 have HWd := Lib.hid (below_then (below_alloc w (.cells cs 28)) (below_drew _))
 have HI := Lib.hid (cmd_info hs)
 clear hs
 go_enter Tryz.func9, Tryz.ntmps9
 go_wp2
 refine wp_region_held_drew (S := fun V => V.heap[w.heap.size]? = some (.cells cs 28 (0, 0))) (by kernel_rfl) HXd.out ?_
 intro hHeld
 clear HXd
 generalize World.drew _ = wd at HWd hHeld ⊢
 (refine takeH (i := 0) (v := .agg cs) rfl (by kernel_rfl) (by kernel_rfl) (by kernel_rfl) (fun _ _ _ h => h) (Or.inl ⟨by rfl, fun wS hSw => exec_load_row 28 (.tmp 1) rfl w.heap.size rfl 28 cs (0, 0) _ hSw Tryz.underlying28 rfl HI.out⟩) (by assumption) ?_; (try simp only [Act.put, pA, pB, pC]))
 (refine takeH (i := 1) (v := .agg cs) rfl (by kernel_rfl) (by kernel_rfl) (by kernel_rfl) (fun _ _ _ h => h) (Or.inl ⟨by rfl, fun wS hSw => exec_load_row 28 (.tmp 1) rfl w.heap.size rfl 28 cs (0, 0) _ hSw Tryz.underlying28 rfl HI.out⟩) (by assumption) ?_; (try simp only [Act.put, pA, pB, pC]))
 refine aloneH (i := 2) rfl (by kernel_rfl) (fun K hK => ?_)
 rw [if_pos (by rfl)]
 go_simp; ((refine (HU.out _).mono ?_); (rintro e w1 ⟨rfl, hb⟩); have HB1 := Lib.hid hb; clear hb; (try go_simp))
 refine hK.out _ _ (heap_on HB1.out hHeld) ?_
 clear hK K hHeld; intro hHeld; (try simp only [Act.put, pA, pB, pC])
 refine aloneH (i := 3) rfl (by kernel_rfl) (fun K hK => ?_)
 rw [if_pos (by rfl)]
 go_simp; ((refine (HSm.out _ (below_then HWd.out HB1.out)).mono ?_); (rintro e w2 ⟨rfl, hb⟩); have HB2 := Lib.hid hb; clear hb; (try go_simp))
 refine hK.out _ _ (heap_on HB2.out hHeld) ?_
 clear hK K hHeld; intro hHeld; (try simp only [Act.put, pA, pB, pC])
 (refine takeP (i := 4) ?_ rfl (.inl ⟨by rfl, ?_⟩) ?_; rotate_left; (focus ((intro wS hSw); (try dsimp only at hSw); have s0 := hSw; go_simp; (try with_reducible rfl); done)); (try simp only [Act.put, pA, pB, pC]))
 refine wpAnyH_done (by kernel_rfl) ?_ _
 have HXa := Lib.hid hHeld
 have HBa := Lib.hid (below_then HWd.out (below_then HB1.out HB2.out))
 clear hHeld
 have k0 := (cell_of_row w2 w.heap.size 0 _ _ _ HXa.out).trans HH.out.1
 have k5 := (cell_of_row w2 w.heap.size 5 _ _ _ HXa.out).trans HH.out.2.1
 have k6 := (cell_of_row w2 w.heap.size 6 _ _ _ HXa.out).trans HH.out.2.2.1
 have k10 := (cell_of_row w2 w.heap.size 10 _ _ _ HXa.out).trans HH.out.2.2.2.1
 have k11 := (cell_of_row w2 w.heap.size 11 _ _ _ HXa.out).trans HH.out.2.2.2.2.1
 have k12 := (cell_of_row w2 w.heap.size 12 _ _ _ HXa.out).trans HH.out.2.2.2.2.2
 cases hA : inB x.from_ 0 2932896
 all_goals
  go_wp2_with (first | (go_at_call 24; refine (ref_in _ _ _ _).mono ?_; rintro e w6 ⟨rfl, rfl⟩) | (go_at_call 25; refine (HGo.out _).mono ?_; rintro e w8 ⟨rfl, hb⟩; clear k0 k5 k6 k10 k11 k12; have HXb := Lib.hid (heap_on hb HXa.out); have HBb := Lib.hid (below_then HBa.out hb); clear hb; have k0 := (cell_of_row w8 w.heap.size 0 _ _ _ HXb.out).trans HH.out.1; have k10 := (cell_of_row w8 w.heap.size 10 _ _ _ HXb.out).trans HH.out.2.2.2.1; have k11 := (cell_of_row w8 w.heap.size 11 _ _ _ HXb.out).trans HH.out.2.2.2.2.1; have k12 := (cell_of_row w8 w.heap.size 12 _ _ _ HXb.out).trans HH.out.2.2.2.2.2; refine Stop.out ?_))
  all_goals
   unfold Stop
   go_wp2_with (first | (go_at_call 24; refine (ref_in _ _ _ _).mono ?_; rintro e w6 ⟨rfl, rfl⟩))
   all_goals (go_ret; exact ⟨ret_bool (by rw [← HV.out]; clear HH HXa HBa HXb HBb HV; (try clear k0); (try clear k1); (try clear k2); (try clear k3); (try clear k4); (try clear k5); (try clear k6); (try clear k7); (try clear k8); (try clear k9); (try clear k10); (try clear k11); (try clear k12); (try clear k13); (try clear k14); (try clear k15); (try clear k16); (try clear k17); (try clear k18); (try clear k19); (try clear k20); (try clear k21); (try clear HXc HBc); simp_all), by first | exact HBc.out | exact HBb.out⟩)
set_option maxHeartbeats 4000000 in
theorem refGood_11 (cs u : Array Value) (x : CmdV) (V : Bool) (w : World) (hs : cs.size = 22) (h0 : cs[0]? = some (.int .i64 11)) (h5 : cs[5]? = some (.int .i64 x.from_)) (h6 : cs[6]? = some (.int .i64 x.until_)) (h10 : cs[10]? = some (.int .i64 x.pk)) (h11 : cs[11]? = some (.int .i64 x.py)) (h12 : cs[12]? = some (.int .i64 x.pi)) (HU : Hid (∀ W, Calls Tryz.prog 23 #[.agg cs] W fun e w1 => e = .returned (.agg u) ∧ Below W.heap.size W w1)) (HSm : Hid (∀ W, Below w.heap.size w W → Calls Tryz.prog 17 #[.agg cs, .agg u] W fun e w1 => e = .returned (.bool true) ∧ Below W.heap.size W w1)) (hV : (Civ.good x.pk x.py x.pi && (x.pk == 3)) = V) : Calls Tryz.prog 9 #[.agg cs] w fun e w1 => e = .returned (.bool V) ∧ Below w.heap.size w w1 := by
 have HH := Lib.hid (And.intro h0 (And.intro h5 (And.intro h6 (And.intro h10 (And.intro h11 (h12))))))
 clear h0 h5 h6 h10 h11 h12
 have HGo : Hid (∀ W, Calls Tryz.prog 25 #[.agg #[.int .i64 x.pk, .int .i64 x.py, .int .i64 x.pi]] W fun e w1 => e = .returned (.bool (Civ.good x.pk x.py x.pi)) ∧ Below W.heap.size W w1) := Lib.hid (fun W => Civs.ref_good x.pk x.py x.pi W)
 generalize Civ.good x.pk x.py x.pi = gd at HGo hV
 have HV := Lib.hid hV
 clear hV
 have HXd := Lib.hid (heap_on (below_drew _) (heap_alloc_new w (.cells cs 28)))
 have HWd := Lib.hid (below_then (below_alloc w (.cells cs 28)) (below_drew _))
 have HI := Lib.hid (cmd_info hs)
 clear hs
 go_enter Tryz.func9, Tryz.ntmps9
 go_wp2
 refine wp_region_held_drew (S := fun V => V.heap[w.heap.size]? = some (.cells cs 28 (0, 0))) (by kernel_rfl) HXd.out ?_
 intro hHeld
 clear HXd
 generalize World.drew _ = wd at HWd hHeld ⊢
 (refine takeH (i := 0) (v := .agg cs) rfl (by kernel_rfl) (by kernel_rfl) (by kernel_rfl) (fun _ _ _ h => h) (Or.inl ⟨by rfl, fun wS hSw => exec_load_row 28 (.tmp 1) rfl w.heap.size rfl 28 cs (0, 0) _ hSw Tryz.underlying28 rfl HI.out⟩) (by assumption) ?_; (try simp only [Act.put, pA, pB, pC]))
 (refine takeH (i := 1) (v := .agg cs) rfl (by kernel_rfl) (by kernel_rfl) (by kernel_rfl) (fun _ _ _ h => h) (Or.inl ⟨by rfl, fun wS hSw => exec_load_row 28 (.tmp 1) rfl w.heap.size rfl 28 cs (0, 0) _ hSw Tryz.underlying28 rfl HI.out⟩) (by assumption) ?_; (try simp only [Act.put, pA, pB, pC]))
 refine aloneH (i := 2) rfl (by kernel_rfl) (fun K hK => ?_)
 rw [if_pos (by rfl)]
 go_simp; ((refine (HU.out _).mono ?_); (rintro e w1 ⟨rfl, hb⟩); have HB1 := Lib.hid hb; clear hb; (try go_simp))
 refine hK.out _ _ (heap_on HB1.out hHeld) ?_
 clear hK K hHeld; intro hHeld; (try simp only [Act.put, pA, pB, pC])
 refine aloneH (i := 3) rfl (by kernel_rfl) (fun K hK => ?_)
 rw [if_pos (by rfl)]
 go_simp; ((refine (HSm.out _ (below_then HWd.out HB1.out)).mono ?_); (rintro e w2 ⟨rfl, hb⟩); have HB2 := Lib.hid hb; clear hb; (try go_simp))
 refine hK.out _ _ (heap_on HB2.out hHeld) ?_
 clear hK K hHeld; intro hHeld; (try simp only [Act.put, pA, pB, pC])
 (refine takeP (i := 4) ?_ rfl (.inl ⟨by rfl, ?_⟩) ?_; rotate_left; (focus ((intro wS hSw); (try dsimp only at hSw); have s0 := hSw; go_simp; (try with_reducible rfl); done)); (try simp only [Act.put, pA, pB, pC]))
 refine wpAnyH_done (by kernel_rfl) ?_ _
 have HXa := Lib.hid hHeld
 have HBa := Lib.hid (below_then HWd.out (below_then HB1.out HB2.out))
 clear hHeld
 have k0 := (cell_of_row w2 w.heap.size 0 _ _ _ HXa.out).trans HH.out.1
 have k5 := (cell_of_row w2 w.heap.size 5 _ _ _ HXa.out).trans HH.out.2.1
 have k6 := (cell_of_row w2 w.heap.size 6 _ _ _ HXa.out).trans HH.out.2.2.1
 have k10 := (cell_of_row w2 w.heap.size 10 _ _ _ HXa.out).trans HH.out.2.2.2.1
 have k11 := (cell_of_row w2 w.heap.size 11 _ _ _ HXa.out).trans HH.out.2.2.2.2.1
 have k12 := (cell_of_row w2 w.heap.size 12 _ _ _ HXa.out).trans HH.out.2.2.2.2.2
 cases hA : inB x.from_ 0 2932896
 all_goals
  go_wp2_with (first | (go_at_call 24; refine (ref_in _ _ _ _).mono ?_; rintro e w6 ⟨rfl, rfl⟩) | (go_at_call 25; refine (HGo.out _).mono ?_; rintro e w8 ⟨rfl, hb⟩; clear k0 k5 k6 k10 k11 k12; have HXb := Lib.hid (heap_on hb HXa.out); have HBb := Lib.hid (below_then HBa.out hb); clear hb; have k0 := (cell_of_row w8 w.heap.size 0 _ _ _ HXb.out).trans HH.out.1; have k10 := (cell_of_row w8 w.heap.size 10 _ _ _ HXb.out).trans HH.out.2.2.2.1; have k11 := (cell_of_row w8 w.heap.size 11 _ _ _ HXb.out).trans HH.out.2.2.2.2.1; have k12 := (cell_of_row w8 w.heap.size 12 _ _ _ HXb.out).trans HH.out.2.2.2.2.2; refine Stop.out ?_))
  all_goals
   unfold Stop
   go_wp2_with (first | (go_at_call 24; refine (ref_in _ _ _ _).mono ?_; rintro e w6 ⟨rfl, rfl⟩))
   all_goals (go_ret; exact ⟨ret_bool (by rw [← HV.out]; clear HH HXa HBa HXb HBb HV; (try clear k0); (try clear k1); (try clear k2); (try clear k3); (try clear k4); (try clear k5); (try clear k6); (try clear k7); (try clear k8); (try clear k9); (try clear k10); (try clear k11); (try clear k12); (try clear k13); (try clear k14); (try clear k15); (try clear k16); (try clear k17); (try clear k18); (try clear k19); (try clear k20); (try clear k21); (try clear HXc HBc); simp_all), by first | exact HBc.out | exact HBb.out⟩)
set_option maxHeartbeats 4000000 in
theorem refGood_O (cs u : Array Value) (x : CmdV) (V : Bool) (w : World) (hs : cs.size = 22) (h0 : cs[0]? = some (.int .i64 x.kind)) (h5 : cs[5]? = some (.int .i64 x.from_)) (h6 : cs[6]? = some (.int .i64 x.until_)) (h10 : cs[10]? = some (.int .i64 x.pk)) (h11 : cs[11]? = some (.int .i64 x.py)) (h12 : cs[12]? = some (.int .i64 x.pi)) (HU : Hid (∀ W, Calls Tryz.prog 23 #[.agg cs] W fun e w1 => e = .returned (.agg u) ∧ Below W.heap.size W w1)) (HSm : Hid (∀ W, Below w.heap.size w W → Calls Tryz.prog 17 #[.agg cs, .agg u] W fun e w1 => e = .returned (.bool true) ∧ Below W.heap.size W w1)) (hk : x.kind < 1 ∨ 11 < x.kind) (hV : false = V) : Calls Tryz.prog 9 #[.agg cs] w fun e w1 => e = .returned (.bool V) ∧ Below w.heap.size w w1 := by
 have HH := Lib.hid (And.intro h0 (And.intro h5 (And.intro h6 (And.intro h10 (And.intro h11 (h12))))))
 clear h0 h5 h6 h10 h11 h12
 have e1 : (x.kind == 1) = false := beq_false_of_ne (by omega)
 have e2 : (x.kind == 2) = false := beq_false_of_ne (by omega)
 have e3 : (x.kind == 3) = false := beq_false_of_ne (by omega)
 have e4 : (x.kind == 4) = false := beq_false_of_ne (by omega)
 have e5 : (x.kind == 5) = false := beq_false_of_ne (by omega)
 have e6 : (x.kind == 6) = false := beq_false_of_ne (by omega)
 have e7 : (x.kind == 7) = false := beq_false_of_ne (by omega)
 have e8 : (x.kind == 8) = false := beq_false_of_ne (by omega)
 have e9 : (x.kind == 9) = false := beq_false_of_ne (by omega)
 have e10 : (x.kind == 10) = false := beq_false_of_ne (by omega)
 have e11 : (x.kind == 11) = false := beq_false_of_ne (by omega)
 clear hk
 have HGo : Hid (∀ W, Calls Tryz.prog 25 #[.agg #[.int .i64 x.pk, .int .i64 x.py, .int .i64 x.pi]] W fun e w1 => e = .returned (.bool (Civ.good x.pk x.py x.pi)) ∧ Below W.heap.size W w1) := Lib.hid (fun W => Civs.ref_good x.pk x.py x.pi W)
 generalize Civ.good x.pk x.py x.pi = gd at HGo hV
 have HV := Lib.hid hV
 clear hV
 have HXd := Lib.hid (heap_on (below_drew _) (heap_alloc_new w (.cells cs 28)))
 have HWd := Lib.hid (below_then (below_alloc w (.cells cs 28)) (below_drew _))
 have HI := Lib.hid (cmd_info hs)
 clear hs
 go_enter Tryz.func9, Tryz.ntmps9
 go_wp2
 refine wp_region_held_drew (S := fun V => V.heap[w.heap.size]? = some (.cells cs 28 (0, 0))) (by kernel_rfl) HXd.out ?_
 intro hHeld
 clear HXd
 generalize World.drew _ = wd at HWd hHeld ⊢
 (refine takeH (i := 0) (v := .agg cs) rfl (by kernel_rfl) (by kernel_rfl) (by kernel_rfl) (fun _ _ _ h => h) (Or.inl ⟨by rfl, fun wS hSw => exec_load_row 28 (.tmp 1) rfl w.heap.size rfl 28 cs (0, 0) _ hSw Tryz.underlying28 rfl HI.out⟩) (by assumption) ?_; (try simp only [Act.put, pA, pB, pC]))
 (refine takeH (i := 1) (v := .agg cs) rfl (by kernel_rfl) (by kernel_rfl) (by kernel_rfl) (fun _ _ _ h => h) (Or.inl ⟨by rfl, fun wS hSw => exec_load_row 28 (.tmp 1) rfl w.heap.size rfl 28 cs (0, 0) _ hSw Tryz.underlying28 rfl HI.out⟩) (by assumption) ?_; (try simp only [Act.put, pA, pB, pC]))
 refine aloneH (i := 2) rfl (by kernel_rfl) (fun K hK => ?_)
 rw [if_pos (by rfl)]
 go_simp; ((refine (HU.out _).mono ?_); (rintro e w1 ⟨rfl, hb⟩); have HB1 := Lib.hid hb; clear hb; (try go_simp))
 refine hK.out _ _ (heap_on HB1.out hHeld) ?_
 clear hK K hHeld; intro hHeld; (try simp only [Act.put, pA, pB, pC])
 refine aloneH (i := 3) rfl (by kernel_rfl) (fun K hK => ?_)
 rw [if_pos (by rfl)]
 go_simp; ((refine (HSm.out _ (below_then HWd.out HB1.out)).mono ?_); (rintro e w2 ⟨rfl, hb⟩); have HB2 := Lib.hid hb; clear hb; (try go_simp))
 refine hK.out _ _ (heap_on HB2.out hHeld) ?_
 clear hK K hHeld; intro hHeld; (try simp only [Act.put, pA, pB, pC])
 (refine takeP (i := 4) ?_ rfl (.inl ⟨by rfl, ?_⟩) ?_; rotate_left; (focus ((intro wS hSw); (try dsimp only at hSw); have s0 := hSw; go_simp; (try with_reducible rfl); done)); (try simp only [Act.put, pA, pB, pC]))
 refine wpAnyH_done (by kernel_rfl) ?_ _
 have HXa := Lib.hid hHeld
 have HBa := Lib.hid (below_then HWd.out (below_then HB1.out HB2.out))
 clear hHeld
 have k0 := (cell_of_row w2 w.heap.size 0 _ _ _ HXa.out).trans HH.out.1
 have k5 := (cell_of_row w2 w.heap.size 5 _ _ _ HXa.out).trans HH.out.2.1
 have k6 := (cell_of_row w2 w.heap.size 6 _ _ _ HXa.out).trans HH.out.2.2.1
 have k10 := (cell_of_row w2 w.heap.size 10 _ _ _ HXa.out).trans HH.out.2.2.2.1
 have k11 := (cell_of_row w2 w.heap.size 11 _ _ _ HXa.out).trans HH.out.2.2.2.2.1
 have k12 := (cell_of_row w2 w.heap.size 12 _ _ _ HXa.out).trans HH.out.2.2.2.2.2
 cases hA : inB x.from_ 0 2932896
 all_goals
  go_wp2_with (first | (go_at_call 24; refine (ref_in _ _ _ _).mono ?_; rintro e w6 ⟨rfl, rfl⟩) | (go_at_call 25; refine (HGo.out _).mono ?_; rintro e w8 ⟨rfl, hb⟩; clear k0 k5 k6 k10 k11 k12; have HXb := Lib.hid (heap_on hb HXa.out); have HBb := Lib.hid (below_then HBa.out hb); clear hb; have k0 := (cell_of_row w8 w.heap.size 0 _ _ _ HXb.out).trans HH.out.1; refine Stop.out ?_))
  all_goals
   unfold Stop
   go_wp2_with (first | (go_at_call 24; refine (ref_in _ _ _ _).mono ?_; rintro e w6 ⟨rfl, rfl⟩))
   all_goals (go_ret; exact ⟨ret_bool HV.out, HBb.out⟩)
end Go.Proofs.YtmjjenemokojjaaGreat

namespace Go.Proofs.YtmjjenemokojjaaGreat
open Go.RowKit
set_option maxRecDepth 100000
set_option linter.unusedSimpArgs false
set_option linter.unusedVariables false

set_option maxHeartbeats 2000000 in
theorem write_8 (cs : Array Value) (d : DocV) (B g : Nat) (S S2 : Option Text) (v : Value) (w : World) (hw : Wrt w B g S v) (hB : B ≤ w.heap.size) (hk : cs[0]? = some (.int .i64 8)) (hy : cs[13]? = some (.string d.id) ∧ cs[14]? = some (.bool d.sale) ∧ cs[15]? = some (.bool d.credit) ∧ cs[16]? = some (.string d.refers) ∧ cs[17]? = some (.int .i64 d.day) ∧ cs[18]? = some (.string d.country) ∧ cs[19]? = some (.string d.number) ∧ cs[20]? = some (.string d.currency) ∧ cs[21]? = some (.slice d.linesA d.lines.length d.linesC)) (hS : (S.getD []).length ≤ 140737488000000) (HWd : Hid (∀ (W : World) (v : Value), Below B w W → Wrt W B g (nextS S (docN 8)) v → B ≤ W.heap.size → Calls Tryz.prog 68 #[.pointer (some ⟨g, 0, none⟩), .agg #[.string d.id, .bool d.sale, .bool d.credit, .string d.refers, .int .i64 d.day, .string d.country, .string d.number, .string d.currency, .slice d.linesA d.lines.length d.linesC]] W (Wrote W B g S2))) : Calls Tryz.prog 39 #[.pointer (some ⟨g, 0, none⟩), .agg cs] w fun e w1 => Wrote w B g S2 e w1 := by
 have HS := Lib.hid (WB.start hw hB (.cells cs 28 (0, 0)))
 have HB0 := Lib.hid (show Below B w (w.alloc (.cells cs 28 (0, 0))) from (Below.refl _ _).alloc hB _)
 have HKs := Lib.hid (And.intro hk hy)
 have HL := Lib.hid hS
 clear hw hS
 have k0 := (cell_of_row _ _ 0 _ _ _ HS.out.box).trans hk
 clear hk hy
 go_enter Tryz.func39, Tryz.ntmps39
 go_wp2_with (go_at_call 66; refine (HS.out.num 8 (by decide) (by decide) HL.out).mono ?_; rintro e w1 ⟨rfl, hs1, hb⟩; have HS1 := Lib.hid hs1; have HB1 := Lib.hid (HB0.out.trans hb); clear hs1 hb k0; have k0 := (cell_of_row _ _ 0 _ _ _ HS1.out.box).trans HKs.out.1; refine Stop.out ?_)
 unfold Stop
 have k13 := (cell_of_row _ _ 13 _ _ _ HS1.out.box).trans HKs.out.2.1
 have k14 := (cell_of_row _ _ 14 _ _ _ HS1.out.box).trans HKs.out.2.2.1
 have k15 := (cell_of_row _ _ 15 _ _ _ HS1.out.box).trans HKs.out.2.2.2.1
 have k16 := (cell_of_row _ _ 16 _ _ _ HS1.out.box).trans HKs.out.2.2.2.2.1
 have k17 := (cell_of_row _ _ 17 _ _ _ HS1.out.box).trans HKs.out.2.2.2.2.2.1
 have k18 := (cell_of_row _ _ 18 _ _ _ HS1.out.box).trans HKs.out.2.2.2.2.2.2.1
 have k19 := (cell_of_row _ _ 19 _ _ _ HS1.out.box).trans HKs.out.2.2.2.2.2.2.2.1
 have k20 := (cell_of_row _ _ 20 _ _ _ HS1.out.box).trans HKs.out.2.2.2.2.2.2.2.2.1
 have k21 := (cell_of_row _ _ 21 _ _ _ HS1.out.box).trans HKs.out.2.2.2.2.2.2.2.2.2
 obtain ⟨v1, hv1, hv2, _⟩ := HS1.out
 have HV := Lib.hid (And.intro hv1 hv2)
 clear hv1 hv2
 go_wp2_with (go_at_call 68; refine (HWd.out _ _ HB1.out HV.out.1 HV.out.2).mono ?_; rintro e w2 ⟨rfl, hw2, hb⟩; have HW2 := Lib.hid hw2; have HB2 := Lib.hid (HB1.out.trans hb); clear hw2 hb)
 go_end0
 exact ⟨rfl, HW2.out, HB2.out⟩
def simpleT : Text := (linesT (headT (nextS (some []) (docN 8)) (simpleD ⟨0, 0, none⟩ 1)) [simpleL]).getD []
theorem simple_bytes (A : Addr) (c : Nat) : linesT (headT (nextS (some []) (docN 8)) (simpleD A c)) (simpleD A c).lines = some simpleT := by
 have e : linesT (headT (nextS (some []) (docN 8)) (simpleD A c)) (simpleD A c).lines = linesT (headT (nextS (some []) (docN 8)) (simpleD ⟨0, 0, none⟩ 1)) [simpleL] := rfl
 rw [e]
 decide +kernel
theorem simpleT_len : simpleT.length ≤ 140737488000000 := by decide +kernel
theorem simple_row {A : Addr} {W W' : World} {B : Nat} (h : RowLineV W (some A) [simpleL]) (hA : A.block < B) (hb : Below B W W') : RowLineV W' (some A) [simpleL] := fun hn => by
 obtain ⟨b, o, e, hl, hr⟩ := h hn
 have e2 : A = ⟨b, o, none⟩ := Option.some.inj e
 subst e2
 exact ⟨b, o, rfl, Nat.lt_of_lt_of_le hl hb.size, fun j v hv => (hb.cell (p := ⟨b, o + j, none⟩) hA).trans (hr j v hv)⟩
set_option maxHeartbeats 1000000 in
theorem encode_simple (A : Addr) (c : Nat) (w : World) (h : RowLineV w (some A) [simpleL]) (hA : A.block < w.heap.size) (h1 : 1 ≤ c) (h2 : c ≤ maxLen) : Calls Tryz.prog 14 #[.agg #[.int .i64 8, .string ⟨#[]⟩, .string ⟨#[]⟩, .int .i64 0, .int .i64 0, .int .i64 0, .int .i64 0, .int .i64 0, .int .i64 0, .int .i64 0, .int .i64 0, .int .i64 0, .int .i64 0, .string ⟨#[97]⟩, .bool true, .bool false, .string ⟨#[]⟩, .int .i64 19000, .string ⟨#[68, 69]⟩, .string ⟨#[]⟩, .string ⟨#[]⟩, .slice (some A) 1 c]] w (EncP w simpleT) :=
 encode_ok #[.int .i64 8, .string ⟨#[]⟩, .string ⟨#[]⟩, .int .i64 0, .int .i64 0, .int .i64 0, .int .i64 0, .int .i64 0, .int .i64 0, .int .i64 0, .int .i64 0, .int .i64 0, .int .i64 0, .string ⟨#[97]⟩, .bool true, .bool false, .string ⟨#[]⟩, .int .i64 19000, .string ⟨#[68, 69]⟩, .string ⟨#[]⟩, .string ⟨#[]⟩, .slice (some A) 1 c] simpleT w rfl (Lib.hid (fun W hb => good_simple A c W (h.on hb) h1 h2))
  (Lib.hid (fun W g v hb hw hB => write_8 #[.int .i64 8, .string ⟨#[]⟩, .string ⟨#[]⟩, .int .i64 0, .int .i64 0, .int .i64 0, .int .i64 0, .int .i64 0, .int .i64 0, .int .i64 0, .int .i64 0, .int .i64 0, .int .i64 0, .string ⟨#[97]⟩, .bool true, .bool false, .string ⟨#[]⟩, .int .i64 19000, .string ⟨#[68, 69]⟩, .string ⟨#[]⟩, .string ⟨#[]⟩, .slice (some A) 1 c] (simpleD A c) (w.heap.size + 1) g (some []) (some simpleT) v W hw hB rfl ⟨rfl, rfl, rfl, rfl, rfl, rfl, rfl, rfl, rfl⟩ (by decide)
   (Lib.hid (fun W2 v2 hb2 hw2 hB2 => by
    have hx := write_doc (simpleD A c) (w.heap.size + 1) g 70000 (nextS (some []) (docN 8)) v2 W2 hw2 hB2 (by decide +kernel) (by decide) (show ([simpleL] : List LineV).length ≤ 1000 by decide) h1 (show (⟨#[97]⟩ : ByteArray).size ≤ _ by decide) (show (⟨#[]⟩ : ByteArray).size ≤ _ by decide) ⟨show (-9223372036854775808 : Int) ≤ 19000 by decide, show (19000 : Int) ≤ 9223372036854775807 by decide, show (⟨#[68, 69]⟩ : ByteArray).size ≤ _ by decide, show (⟨#[]⟩ : ByteArray).size ≤ _ by decide, show (⟨#[]⟩ : ByteArray).size ≤ _ by decide⟩
     (Lib.hid (fun W3 hb3 => simple_row ((h.on hb).on ((Below.refl _ _))) (Nat.lt_succ_of_lt hA) (hb2.trans hb3)))
     (Lib.hid (fun l hl => by
      have : l = simpleL := by simpa [simpleD] using hl
      subst this
      unfold lineR simpleL
      decide))
    rw [simple_bytes] at hx
    exact hx)))) simpleT_len
end Go.Proofs.YtmjjenemokojjaaGreat
