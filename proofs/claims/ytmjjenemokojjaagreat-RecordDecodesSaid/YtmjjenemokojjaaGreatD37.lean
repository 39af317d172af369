/- Commands: what may be: the document's, by what it calls. -/
import Derived.Test.YtmjjenemokojjaaGreatD11
import Derived.Test.YtmjjenemokojjaaGreatD36
import Derived.Test.YtmjjenemokojjaaGreatD22
import Derived.Test.YtmjjenemokojjaaGreatD34
import Derived.Test.YtmjjenemokojjaaGreatD18
import Derived.Test.YtmjjenemokojjaaGreatD24
import Derived.Test.YtmjjenemokojjaaGreatD10
import Derived.WalkMore
namespace Go.Proofs.YtmjjenemokojjaaGreat
open Go.RowKit
set_option maxRecDepth 100000
set_option linter.unusedSimpArgs false
set_option linter.unusedVariables false

set_option maxHeartbeats 2000000 in
theorem refGood_no (cs u : Array Value) (w : World) (hs : cs.size = 22) (HU : Hid (∀ W, Calls Tryz.prog 23 #[.agg cs] W fun e w1 => e = .returned (.agg u) ∧ Below W.heap.size W w1)) (HSm : Hid (∀ W, Below w.heap.size w W → Calls Tryz.prog 17 #[.agg cs, .agg u] W fun e w1 => e = .returned (.bool false) ∧ Below W.heap.size W w1)) : Calls Tryz.prog 9 #[.agg cs] w fun e w1 => e = .returned (.bool false) ∧ Below w.heap.size w w1 := by
 have HXd := Lib.hid (heap_on (below_drew _) (heap_alloc_new w (.cells cs 28)))
 have HWd := Lib.hid (below_then (below_alloc w (.cells cs 28)) (below_drew _))
 have HI := Lib.hid (cmd_info hs)
 clear hs
 go_enter Tryz.func9, Tryz.ntmps9
 go_wp2
 refine wp_region_held_drew (S := fun V => V.heap[w.heap.size]? = some (.cells cs 28 (0, 0))) (by kernel_rfl) HXd.out ?_
 intro hHeld
 clear HXd
 generalize World.drew _ = wd at HWd hHeld ⊢
 (refine takeH (i := 0) (v := .agg cs) rfl (by kernel_rfl) (by kernel_rfl) (by kernel_rfl) (fun _ _ _ h => h) (Or.inl ⟨by rfl, fun wS hSw => exec_load_row 28 (.tmp 1) rfl w.heap.size rfl 28 cs (0, 0) _ hSw Tryz.underlying28 rfl HI.out⟩) (by assumption) ?_; (try simp only [Act.put, pA, pB, pC]))
 (refine takeH (i := 1) (v := .agg cs) rfl (by kernel_rfl) (by kernel_rfl) (by kernel_rfl) (fun _ _ _ h => h) (Or.inl ⟨by rfl, fun wS hSw => exec_load_row 28 (.tmp 1) rfl w.heap.size rfl 28 cs (0, 0) _ hSw Tryz.underlying28 rfl HI.out⟩) (by assumption) ?_; (try simp only [Act.put, pA, pB, pC]))
 refine aloneH (i := 2) rfl (by kernel_rfl) (fun K hK => ?_)
 rw [if_pos (by rfl)]
 go_simp; ((refine (HU.out _).mono ?_); (rintro e w1 ⟨rfl, hb⟩); have HB1 := Lib.hid hb; clear hb; (try go_simp))
 refine hK.out _ _ (heap_on HB1.out hHeld) ?_
 clear hK K hHeld; intro hHeld; (try simp only [Act.put, pA, pB, pC])
 refine aloneH (i := 3) rfl (by kernel_rfl) (fun K hK => ?_)
 rw [if_pos (by rfl)]
 go_simp; ((refine (HSm.out _ (below_then HWd.out HB1.out)).mono ?_); (rintro e w2 ⟨rfl, hb⟩); have HB2 := Lib.hid hb; clear hb; (try go_simp))
 refine hK.out _ _ (heap_on HB2.out hHeld) ?_
 clear hK K hHeld; intro hHeld; (try simp only [Act.put, pA, pB, pC])
 (refine takeP (i := 4) ?_ rfl (.inl ⟨by rfl, ?_⟩) ?_; rotate_left; (focus ((intro wS hSw); (try dsimp only at hSw); have s0 := hSw; go_simp; (try with_reducible rfl); done)); (try simp only [Act.put, pA, pB, pC]))
 refine wpAnyH_done (by kernel_rfl) ?_ _
 clear hHeld
 go_wp2
 go_ret
 exact ⟨rfl, below_then HWd.out (below_then HB1.out HB2.out)⟩
set_option maxHeartbeats 4000000 in
theorem refGood_1 (cs u : Array Value) (x : CmdV) (V : Bool) (w : World) (hs : cs.size = 22) (h0 : cs[0]? = some (.int .i64 1)) (h1 : cs[1]? = some (.string x.state)) (h5 : cs[5]? = some (.int .i64 x.from_)) (h6 : cs[6]? = some (.int .i64 x.until_)) (h9 : cs[9]? = some (.int .i64 x.index)) (h10 : cs[10]? = some (.int .i64 x.pk)) (h11 : cs[11]? = some (.int .i64 x.py)) (h12 : cs[12]? = some (.int .i64 x.pi)) (HU : Hid (∀ W, Calls Tryz.prog 23 #[.agg cs] W fun e w1 => e = .returned (.agg u) ∧ Below W.heap.size W w1)) (HSm : Hid (∀ W, Below w.heap.size w W → Calls Tryz.prog 17 #[.agg cs, .agg u] W fun e w1 => e = .returned (.bool true) ∧ Below W.heap.size W w1)) (hV : (isMem x.state && inB x.index 1 2 && inB x.from_ 0 2932896) = V) : Calls Tryz.prog 9 #[.agg cs] w fun e w1 => e = .returned (.bool V) ∧ Below w.heap.size w w1 := by
 have HH := Lib.hid (And.intro h0 (And.intro h1 (And.intro h5 (And.intro h6 (And.intro h9 (And.intro h10 (And.intro h11 (h12))))))))
 clear h0 h1 h5 h6 h9 h10 h11 h12
 have HM : Hid (∀ W, Calls Tryz.prog 26 #[.string x.state] W fun e w1 => e = .returned (.bool (isMem x.state)) ∧ Below W.heap.size W w1) := Lib.hid (fun W => ref_member x.state W)
 generalize isMem x.state = m at HM hV
 have HGo : Hid (∀ W, Calls Tryz.prog 25 #[.agg #[.int .i64 x.pk, .int .i64 x.py, .int .i64 x.pi]] W fun e w1 => e = .returned (.bool (Civ.good x.pk x.py x.pi)) ∧ Below W.heap.size W w1) := Lib.hid (fun W => Civs.ref_good x.pk x.py x.pi W)
 generalize Civ.good x.pk x.py x.pi = gd at HGo hV
 have HV := Lib.hid hV
 clear hV
 have HXd := Lib.hid (heap_on (below_drew _) (heap_alloc_new w (.cells cs 28)))
 have HWd := Lib.hid (below_then (below_alloc w (.cells cs 28)) (below_drew _))
 have HI := Lib.hid (cmd_info hs)
 clear hs
 go_enter Tryz.func9, Tryz.ntmps9
 go_wp2
 refine wp_region_held_drew (S := fun V => V.heap[w.heap.size]? = some (.cells cs 28 (0, 0))) (by kernel_rfl) HXd.out ?_
 intro hHeld
 clear HXd
 generalize World.drew _ = wd at HWd hHeld ⊢
 (refine takeH (i := 0) (v := .agg cs) rfl (by kernel_rfl) (by kernel_rfl) (by kernel_rfl) (fun _ _ _ h => h) (Or.inl ⟨by rfl, fun wS hSw => exec_load_row 28 (.tmp 1) rfl w.heap.size rfl 28 cs (0, 0) _ hSw Tryz.underlying28 rfl HI.out⟩) (by assumption) ?_; (try simp only [Act.put, pA, pB, pC]))
 (refine takeH (i := 1) (v := .agg cs) rfl (by kernel_rfl) (by kernel_rfl) (by kernel_rfl) (fun _ _ _ h => h) (Or.inl ⟨by rfl, fun wS hSw => exec_load_row 28 (.tmp 1) rfl w.heap.size rfl 28 cs (0, 0) _ hSw Tryz.underlying28 rfl HI.out⟩) (by assumption) ?_; (try simp only [Act.put, pA, pB, pC]))
 refine aloneH (i := 2) rfl (by kernel_rfl) (fun K hK => ?_)
 rw [if_pos (by rfl)]
 go_simp; ((refine (HU.out _).mono ?_); (rintro e w1 ⟨rfl, hb⟩); have HB1 := Lib.hid hb; clear hb; (try go_simp))
 refine hK.out _ _ (heap_on HB1.out hHeld) ?_
 clear hK K hHeld; intro hHeld; (try simp only [Act.put, pA, pB, pC])
 refine aloneH (i := 3) rfl (by kernel_rfl) (fun K hK => ?_)
 rw [if_pos (by rfl)]
 go_simp; ((refine (HSm.out _ (below_then HWd.out HB1.out)).mono ?_); (rintro e w2 ⟨rfl, hb⟩); have HB2 := Lib.hid hb; clear hb; (try go_simp))
 refine hK.out _ _ (heap_on HB2.out hHeld) ?_
 clear hK K hHeld; intro hHeld; (try simp only [Act.put, pA, pB, pC])
 (refine takeP (i := 4) ?_ rfl (.inl ⟨by rfl, ?_⟩) ?_; rotate_left; (focus ((intro wS hSw); (try dsimp only at hSw); have s0 := hSw; go_simp; (try with_reducible rfl); done)); (try simp only [Act.put, pA, pB, pC]))
 refine wpAnyH_done (by kernel_rfl) ?_ _
 have HXa := Lib.hid hHeld
 have HBa := Lib.hid (below_then HWd.out (below_then HB1.out HB2.out))
 clear hHeld
 have k0 := (cell_of_row w2 w.heap.size 0 _ _ _ HXa.out).trans HH.out.1
 have k5 := (cell_of_row w2 w.heap.size 5 _ _ _ HXa.out).trans HH.out.2.2.1
 have k6 := (cell_of_row w2 w.heap.size 6 _ _ _ HXa.out).trans HH.out.2.2.2.1
 have k10 := (cell_of_row w2 w.heap.size 10 _ _ _ HXa.out).trans HH.out.2.2.2.2.2.1
 have k11 := (cell_of_row w2 w.heap.size 11 _ _ _ HXa.out).trans HH.out.2.2.2.2.2.2.1
 have k12 := (cell_of_row w2 w.heap.size 12 _ _ _ HXa.out).trans HH.out.2.2.2.2.2.2.2
 cases hA : inB x.from_ 0 2932896
 all_goals
  go_wp2_with (first | (go_at_call 24; refine (ref_in _ _ _ _).mono ?_; rintro e w6 ⟨rfl, rfl⟩) | (go_at_call 25; refine (HGo.out _).mono ?_; rintro e w8 ⟨rfl, hb⟩; clear k0 k5 k6 k10 k11 k12; have HXb := Lib.hid (heap_on hb HXa.out); have HBb := Lib.hid (below_then HBa.out hb); clear hb; have k0 := (cell_of_row w8 w.heap.size 0 _ _ _ HXb.out).trans HH.out.1; have k1 := (cell_of_row w8 w.heap.size 1 _ _ _ HXb.out).trans HH.out.2.1; have k5 := (cell_of_row w8 w.heap.size 5 _ _ _ HXb.out).trans HH.out.2.2.1; have k9 := (cell_of_row w8 w.heap.size 9 _ _ _ HXb.out).trans HH.out.2.2.2.2.1; refine Stop.out ?_))
  all_goals
   unfold Stop
   go_wp2_with (first | (go_at_call 24; refine (ref_in _ _ _ _).mono ?_; rintro e w6 ⟨rfl, rfl⟩) | (go_at_call 26; refine (HM.out _).mono ?_; rintro e w9 ⟨rfl, hb⟩; clear k0 k1 k5 k9; have HXc := Lib.hid (heap_on hb HXb.out); have HBc := Lib.hid (below_then HBb.out hb); clear hb; have k9 := (cell_of_row w9 w.heap.size 9 _ _ _ HXc.out).trans HH.out.2.2.2.2.1; have k5 := (cell_of_row w9 w.heap.size 5 _ _ _ HXc.out).trans HH.out.2.2.1; refine Stop.out ?_))
   unfold Stop
   go_wp2_with ((go_at_call 24; refine (ref_in _ _ _ _).mono ?_; rintro e w6 ⟨rfl, rfl⟩))
   all_goals (go_ret; exact ⟨ret_bool (by rw [← HV.out]; clear HH HXa HBa HXb HBb HV; (try clear k0); (try clear k1); (try clear k2); (try clear k3); (try clear k4); (try clear k5); (try clear k6); (try clear k7); (try clear k8); (try clear k9); (try clear k10); (try clear k11); (try clear k12); (try clear k13); (try clear k14); (try clear k15); (try clear k16); (try clear k17); (try clear k18); (try clear k19); (try clear k20); (try clear k21); (try clear HXc HBc); simp_all), by first | exact HBc.out | exact HBb.out⟩)
set_option maxHeartbeats 4000000 in
theorem refGood_2 (cs u : Array Value) (x : CmdV) (V : Bool) (w : World) (hs : cs.size = 22) (h0 : cs[0]? = some (.int .i64 2)) (h1 : cs[1]? = some (.string x.state)) (h3 : cs[3]? = some (.int .i64 x.category)) (h4 : cs[4]? = some (.int .i64 x.bp)) (h5 : cs[5]? = some (.int .i64 x.from_)) (h6 : cs[6]? = some (.int .i64 x.until_)) (h10 : cs[10]? = some (.int .i64 x.pk)) (h11 : cs[11]? = some (.int .i64 x.py)) (h12 : cs[12]? = some (.int .i64 x.pi)) (HU : Hid (∀ W, Calls Tryz.prog 23 #[.agg cs] W fun e w1 => e = .returned (.agg u) ∧ Below W.heap.size W w1)) (HSm : Hid (∀ W, Below w.heap.size w W → Calls Tryz.prog 17 #[.agg cs, .agg u] W fun e w1 => e = .returned (.bool true) ∧ Below W.heap.size W w1)) (hV : (isMem x.state && inB x.category 1 3 && (inB x.from_ 0 2932896 && inB x.until_ x.from_ 2932896) && inB x.bp 0 10000) = V) : Calls Tryz.prog 9 #[.agg cs] w fun e w1 => e = .returned (.bool V) ∧ Below w.heap.size w w1 := by
 have HH := Lib.hid (And.intro h0 (And.intro h1 (And.intro h3 (And.intro h4 (And.intro h5 (And.intro h6 (And.intro h10 (And.intro h11 (h12)))))))))
 clear h0 h1 h3 h4 h5 h6 h10 h11 h12
 have HM : Hid (∀ W, Calls Tryz.prog 26 #[.string x.state] W fun e w1 => e = .returned (.bool (isMem x.state)) ∧ Below W.heap.size W w1) := Lib.hid (fun W => ref_member x.state W)
 generalize isMem x.state = m at HM hV
 have HGo : Hid (∀ W, Calls Tryz.prog 25 #[.agg #[.int .i64 x.pk, .int .i64 x.py, .int .i64 x.pi]] W fun e w1 => e = .returned (.bool (Civ.good x.pk x.py x.pi)) ∧ Below W.heap.size W w1) := Lib.hid (fun W => Civs.ref_good x.pk x.py x.pi W)
 generalize Civ.good x.pk x.py x.pi = gd at HGo hV
 have HV := Lib.hid hV
 clear hV
 have HXd := Lib.hid (heap_on (below_drew _) (heap_alloc_new w (.cells cs 28)))
 have HWd := Lib.hid (below_then (below_alloc w (.cells cs 28)) (below_drew _))
 have HI := Lib.hid (cmd_info hs)
 clear hs
 go_enter Tryz.func9, Tryz.ntmps9
 go_wp2
 refine wp_region_held_drew (S := fun V => V.heap[w.heap.size]? = some (.cells cs 28 (0, 0))) (by kernel_rfl) HXd.out ?_
 intro hHeld
 clear HXd
 generalize World.drew _ = wd at HWd hHeld ⊢
 (refine takeH (i := 0) (v := .agg cs) rfl (by kernel_rfl) (by kernel_rfl) (by kernel_rfl) (fun _ _ _ h => h) (Or.inl ⟨by rfl, fun wS hSw => exec_load_row 28 (.tmp 1) rfl w.heap.size rfl 28 cs (0, 0) _ hSw Tryz.underlying28 rfl HI.out⟩) (by assumption) ?_; (try simp only [Act.put, pA, pB, pC]))
 (refine takeH (i := 1) (v := .agg cs) rfl (by kernel_rfl) (by kernel_rfl) (by kernel_rfl) (fun _ _ _ h => h) (Or.inl ⟨by rfl, fun wS hSw => exec_load_row 28 (.tmp 1) rfl w.heap.size rfl 28 cs (0, 0) _ hSw Tryz.underlying28 rfl HI.out⟩) (by assumption) ?_; (try simp only [Act.put, pA, pB, pC]))
 refine aloneH (i := 2) rfl (by kernel_rfl) (fun K hK => ?_)
 rw [if_pos (by rfl)]
 go_simp; ((refine (HU.out _).mono ?_); (rintro e w1 ⟨rfl, hb⟩); have HB1 := Lib.hid hb; clear hb; (try go_simp))
 refine hK.out _ _ (heap_on HB1.out hHeld) ?_
 clear hK K hHeld; intro hHeld; (try simp only [Act.put, pA, pB, pC])
 refine aloneH (i := 3) rfl (by kernel_rfl) (fun K hK => ?_)
 rw [if_pos (by rfl)]
 go_simp; ((refine (HSm.out _ (below_then HWd.out HB1.out)).mono ?_); (rintro e w2 ⟨rfl, hb⟩); have HB2 := Lib.hid hb; clear hb; (try go_simp))
 refine hK.out _ _ (heap_on HB2.out hHeld) ?_
 clear hK K hHeld; intro hHeld; (try simp only [Act.put, pA, pB, pC])
 (refine takeP (i := 4) ?_ rfl (.inl ⟨by rfl, ?_⟩) ?_; rotate_left; (focus ((intro wS hSw); (try dsimp only at hSw); have s0 := hSw; go_simp; (try with_reducible rfl); done)); (try simp only [Act.put, pA, pB, pC]))
 refine wpAnyH_done (by kernel_rfl) ?_ _
 have HXa := Lib.hid hHeld
 have HBa := Lib.hid (below_then HWd.out (below_then HB1.out HB2.out))
 clear hHeld
 have k0 := (cell_of_row w2 w.heap.size 0 _ _ _ HXa.out).trans HH.out.1
 have k5 := (cell_of_row w2 w.heap.size 5 _ _ _ HXa.out).trans HH.out.2.2.2.2.1
 have k6 := (cell_of_row w2 w.heap.size 6 _ _ _ HXa.out).trans HH.out.2.2.2.2.2.1
 have k10 := (cell_of_row w2 w.heap.size 10 _ _ _ HXa.out).trans HH.out.2.2.2.2.2.2.1
 have k11 := (cell_of_row w2 w.heap.size 11 _ _ _ HXa.out).trans HH.out.2.2.2.2.2.2.2.1
 have k12 := (cell_of_row w2 w.heap.size 12 _ _ _ HXa.out).trans HH.out.2.2.2.2.2.2.2.2
 cases hA : inB x.from_ 0 2932896
 all_goals
  go_wp2_with (first | (go_at_call 24; refine (ref_in _ _ _ _).mono ?_; rintro e w6 ⟨rfl, rfl⟩) | (go_at_call 25; refine (HGo.out _).mono ?_; rintro e w8 ⟨rfl, hb⟩; clear k0 k5 k6 k10 k11 k12; have HXb := Lib.hid (heap_on hb HXa.out); have HBb := Lib.hid (below_then HBa.out hb); clear hb; have k0 := (cell_of_row w8 w.heap.size 0 _ _ _ HXb.out).trans HH.out.1; have k1 := (cell_of_row w8 w.heap.size 1 _ _ _ HXb.out).trans HH.out.2.1; have k3 := (cell_of_row w8 w.heap.size 3 _ _ _ HXb.out).trans HH.out.2.2.1; have k4 := (cell_of_row w8 w.heap.size 4 _ _ _ HXb.out).trans HH.out.2.2.2.1; refine Stop.out ?_))
  all_goals
   unfold Stop
   go_wp2_with (first | (go_at_call 24; refine (ref_in _ _ _ _).mono ?_; rintro e w6 ⟨rfl, rfl⟩) | (go_at_call 26; refine (HM.out _).mono ?_; rintro e w9 ⟨rfl, hb⟩; clear k0 k1 k3 k4; have HXc := Lib.hid (heap_on hb HXb.out); have HBc := Lib.hid (below_then HBb.out hb); clear hb; have k3 := (cell_of_row w9 w.heap.size 3 _ _ _ HXc.out).trans HH.out.2.2.1; have k4 := (cell_of_row w9 w.heap.size 4 _ _ _ HXc.out).trans HH.out.2.2.2.1; refine Stop.out ?_))
   unfold Stop
   go_wp2_with ((go_at_call 24; refine (ref_in _ _ _ _).mono ?_; rintro e w6 ⟨rfl, rfl⟩))
   all_goals (go_ret; exact ⟨ret_bool (by rw [← HV.out]; clear HH HXa HBa HXb HBb HV; (try clear k0); (try clear k1); (try clear k2); (try clear k3); (try clear k4); (try clear k5); (try clear k6); (try clear k7); (try clear k8); (try clear k9); (try clear k10); (try clear k11); (try clear k12); (try clear k13); (try clear k14); (try clear k15); (try clear k16); (try clear k17); (try clear k18); (try clear k19); (try clear k20); (try clear k21); (try clear HXc HBc); simp_all), by first | exact HBc.out | exact HBb.out⟩)
set_option maxHeartbeats 4000000 in
theorem refGood_3 (cs u : Array Value) (x : CmdV) (V : Bool) (w : World) (hs : cs.size = 22) (h0 : cs[0]? = some (.int .i64 3)) (h5 : cs[5]? = some (.int .i64 x.from_)) (h6 : cs[6]? = some (.int .i64 x.until_)) (h10 : cs[10]? = some (.int .i64 x.pk)) (h11 : cs[11]? = some (.int .i64 x.py)) (h12 : cs[12]? = some (.int .i64 x.pi)) (HU : Hid (∀ W, Calls Tryz.prog 23 #[.agg cs] W fun e w1 => e = .returned (.agg u) ∧ Below W.heap.size W w1)) (HSm : Hid (∀ W, Below w.heap.size w W → Calls Tryz.prog 17 #[.agg cs, .agg u] W fun e w1 => e = .returned (.bool true) ∧ Below W.heap.size W w1)) (hV : (inB x.from_ 0 2932896 && inB x.until_ x.from_ 2932896) = V) : Calls Tryz.prog 9 #[.agg cs] w fun e w1 => e = .returned (.bool V) ∧ Below w.heap.size w w1 := by
 have HH := Lib.hid (And.intro h0 (And.intro h5 (And.intro h6 (And.intro h10 (And.intro h11 (h12))))))
 clear h0 h5 h6 h10 h11 h12
 have HGo : Hid (∀ W, Calls Tryz.prog 25 #[.agg #[.int .i64 x.pk, .int .i64 x.py, .int .i64 x.pi]] W fun e w1 => e = .returned (.bool (Civ.good x.pk x.py x.pi)) ∧ Below W.heap.size W w1) := Lib.hid (fun W => Civs.ref_good x.pk x.py x.pi W)
 generalize Civ.good x.pk x.py x.pi = gd at HGo hV
 have HV := Lib.hid hV
 clear hV
 have HXd := Lib.hid (heap_on (below_drew _) (heap_alloc_new w (.cells cs 28)))
 have HWd := Lib.hid (below_then (below_alloc w (.cells cs 28)) (below_drew _))
 have HI := Lib.hid (cmd_info hs)
 clear hs
 go_enter Tryz.func9, Tryz.ntmps9
 go_wp2
 refine wp_region_held_drew (S := fun V => V.heap[w.heap.size]? = some (.cells cs 28 (0, 0))) (by kernel_rfl) HXd.out ?_
 intro hHeld
 clear HXd
 generalize World.drew _ = wd at HWd hHeld ⊢
 (refine takeH (i := 0) (v := .agg cs) rfl (by kernel_rfl) (by kernel_rfl) (by kernel_rfl) (fun _ _ _ h => h) (Or.inl ⟨by rfl, fun wS hSw => exec_load_row 28 (.tmp 1) rfl w.heap.size rfl 28 cs (0, 0) _ hSw Tryz.underlying28 rfl HI.out⟩) (by assumption) ?_; (try simp only [Act.put, pA, pB, pC]))
 (refine takeH (i := 1) (v := .agg cs) rfl (by kernel_rfl) (by kernel_rfl) (by kernel_rfl) (fun _ _ _ h => h) (Or.inl ⟨by rfl, fun wS hSw => exec_load_row 28 (.tmp 1) rfl w.heap.size rfl 28 cs (0, 0) _ hSw Tryz.underlying28 rfl HI.out⟩) (by assumption) ?_; (try simp only [Act.put, pA, pB, pC]))
 refine aloneH (i := 2) rfl (by kernel_rfl) (fun K hK => ?_)
 rw [if_pos (by rfl)]
 go_simp; ((refine (HU.out _).mono ?_); (rintro e w1 ⟨rfl, hb⟩); have HB1 := Lib.hid hb; clear hb; (try go_simp))
 refine hK.out _ _ (heap_on HB1.out hHeld) ?_
 clear hK K hHeld; intro hHeld; (try simp only [Act.put, pA, pB, pC])
 refine aloneH (i := 3) rfl (by kernel_rfl) (fun K hK => ?_)
 rw [if_pos (by rfl)]
 go_simp; ((refine (HSm.out _ (below_then HWd.out HB1.out)).mono ?_); (rintro e w2 ⟨rfl, hb⟩); have HB2 := Lib.hid hb; clear hb; (try go_simp))
 refine hK.out _ _ (heap_on HB2.out hHeld) ?_
 clear hK K hHeld; intro hHeld; (try simp only [Act.put, pA, pB, pC])
 (refine takeP (i := 4) ?_ rfl (.inl ⟨by rfl, ?_⟩) ?_; rotate_left; (focus ((intro wS hSw); (try dsimp only at hSw); have s0 := hSw; go_simp; (try with_reducible rfl); done)); (try simp only [Act.put, pA, pB, pC]))
 refine wpAnyH_done (by kernel_rfl) ?_ _
 have HXa := Lib.hid hHeld
 have HBa := Lib.hid (below_then HWd.out (below_then HB1.out HB2.out))
 clear hHeld
 have k0 := (cell_of_row w2 w.heap.size 0 _ _ _ HXa.out).trans HH.out.1
 have k5 := (cell_of_row w2 w.heap.size 5 _ _ _ HXa.out).trans HH.out.2.1
 have k6 := (cell_of_row w2 w.heap.size 6 _ _ _ HXa.out).trans HH.out.2.2.1
 have k10 := (cell_of_row w2 w.heap.size 10 _ _ _ HXa.out).trans HH.out.2.2.2.1
 have k11 := (cell_of_row w2 w.heap.size 11 _ _ _ HXa.out).trans HH.out.2.2.2.2.1
 have k12 := (cell_of_row w2 w.heap.size 12 _ _ _ HXa.out).trans HH.out.2.2.2.2.2
 cases hA : inB x.from_ 0 2932896
 all_goals
  go_wp2_with (first | (go_at_call 24; refine (ref_in _ _ _ _).mono ?_; rintro e w6 ⟨rfl, rfl⟩) | (go_at_call 25; refine (HGo.out _).mono ?_; rintro e w8 ⟨rfl, hb⟩; clear k0 k5 k6 k10 k11 k12; have HXb := Lib.hid (heap_on hb HXa.out); have HBb := Lib.hid (below_then HBa.out hb); clear hb; have k0 := (cell_of_row w8 w.heap.size 0 _ _ _ HXb.out).trans HH.out.1; refine Stop.out ?_))
  all_goals
   unfold Stop
   go_wp2_with (first | (go_at_call 24; refine (ref_in _ _ _ _).mono ?_; rintro e w6 ⟨rfl, rfl⟩))
   all_goals (go_ret; exact ⟨ret_bool (by rw [← HV.out]; clear HH HXa HBa HXb HBb HV; (try clear k0); (try clear k1); (try clear k2); (try clear k3); (try clear k4); (try clear k5); (try clear k6); (try clear k7); (try clear k8); (try clear k9); (try clear k10); (try clear k11); (try clear k12); (try clear k13); (try clear k14); (try clear k15); (try clear k16); (try clear k17); (try clear k18); (try clear k19); (try clear k20); (try clear k21); (try clear HXc HBc); simp_all), by first | exact HBc.out | exact HBb.out⟩)
set_option maxHeartbeats 4000000 in
theorem refGood_4 (cs u : Array Value) (x : CmdV) (V : Bool) (w : World) (hs : cs.size = 22) (h0 : cs[0]? = some (.int .i64 4)) (h1 : cs[1]? = some (.string x.state)) (h2 : cs[2]? = some (.string x.text)) (h5 : cs[5]? = some (.int .i64 x.from_)) (h6 : cs[6]? = some (.int .i64 x.until_)) (h10 : cs[10]? = some (.int .i64 x.pk)) (h11 : cs[11]? = some (.int .i64 x.py)) (h12 : cs[12]? = some (.int .i64 x.pi)) (HU : Hid (∀ W, Calls Tryz.prog 23 #[.agg cs] W fun e w1 => e = .returned (.agg u) ∧ Below W.heap.size W w1)) (HSm : Hid (∀ W, Below w.heap.size w W → Calls Tryz.prog 17 #[.agg cs, .agg u] W fun e w1 => e = .returned (.bool true) ∧ Below W.heap.size W w1)) (hz : x.state.size ≤ 140737488351232 ∧ x.text.size ≤ 140737488351232) (hV : (rightP x.state x.text && (inB x.from_ 0 2932896 && inB x.until_ x.from_ 2932896)) = V) : Calls Tryz.prog 9 #[.agg cs] w fun e w1 => e = .returned (.bool V) ∧ Below w.heap.size w w1 := by
 have HH := Lib.hid (And.intro h0 (And.intro h1 (And.intro h2 (And.intro h5 (And.intro h6 (And.intro h10 (And.intro h11 (h12))))))))
 clear h0 h1 h2 h5 h6 h10 h11 h12
 have HRt : Hid (∀ W, Calls Tryz.prog 27 #[.string x.state, .string x.text] W fun e w1 => e = .returned (.bool (rightP x.state x.text)) ∧ Below W.heap.size W w1) := Lib.hid (fun W => ref_right x.state x.text W hz.1 (by omega))
 generalize rightP x.state x.text = m at HRt hV
 clear hz
 have HGo : Hid (∀ W, Calls Tryz.prog 25 #[.agg #[.int .i64 x.pk, .int .i64 x.py, .int .i64 x.pi]] W fun e w1 => e = .returned (.bool (Civ.good x.pk x.py x.pi)) ∧ Below W.heap.size W w1) := Lib.hid (fun W => Civs.ref_good x.pk x.py x.pi W)
 generalize Civ.good x.pk x.py x.pi = gd at HGo hV
 have HV := Lib.hid hV
 clear hV
 have HXd := Lib.hid (heap_on (below_drew _) (heap_alloc_new w (.cells cs 28)))
 have HWd := Lib.hid (below_then (below_alloc w (.cells cs 28)) (below_drew _))
 have HI := Lib.hid (cmd_info hs)
 clear hs
 go_enter Tryz.func9, Tryz.ntmps9
 go_wp2
 refine wp_region_held_drew (S := fun V => V.heap[w.heap.size]? = some (.cells cs 28 (0, 0))) (by kernel_rfl) HXd.out ?_
 intro hHeld
 clear HXd
 generalize World.drew _ = wd at HWd hHeld ⊢
 (refine takeH (i := 0) (v := .agg cs) rfl (by kernel_rfl) (by kernel_rfl) (by kernel_rfl) (fun _ _ _ h => h) (Or.inl ⟨by rfl, fun wS hSw => exec_load_row 28 (.tmp 1) rfl w.heap.size rfl 28 cs (0, 0) _ hSw Tryz.underlying28 rfl HI.out⟩) (by assumption) ?_; (try simp only [Act.put, pA, pB, pC]))
 (refine takeH (i := 1) (v := .agg cs) rfl (by kernel_rfl) (by kernel_rfl) (by kernel_rfl) (fun _ _ _ h => h) (Or.inl ⟨by rfl, fun wS hSw => exec_load_row 28 (.tmp 1) rfl w.heap.size rfl 28 cs (0, 0) _ hSw Tryz.underlying28 rfl HI.out⟩) (by assumption) ?_; (try simp only [Act.put, pA, pB, pC]))
 refine aloneH (i := 2) rfl (by kernel_rfl) (fun K hK => ?_)
 rw [if_pos (by rfl)]
 go_simp; ((refine (HU.out _).mono ?_); (rintro e w1 ⟨rfl, hb⟩); have HB1 := Lib.hid hb; clear hb; (try go_simp))
 refine hK.out _ _ (heap_on HB1.out hHeld) ?_
 clear hK K hHeld; intro hHeld; (try simp only [Act.put, pA, pB, pC])
 refine aloneH (i := 3) rfl (by kernel_rfl) (fun K hK => ?_)
 rw [if_pos (by rfl)]
 go_simp; ((refine (HSm.out _ (below_then HWd.out HB1.out)).mono ?_); (rintro e w2 ⟨rfl, hb⟩); have HB2 := Lib.hid hb; clear hb; (try go_simp))
 refine hK.out _ _ (heap_on HB2.out hHeld) ?_
 clear hK K hHeld; intro hHeld; (try simp only [Act.put, pA, pB, pC])
 (refine takeP (i := 4) ?_ rfl (.inl ⟨by rfl, ?_⟩) ?_; rotate_left; (focus ((intro wS hSw); (try dsimp only at hSw); have s0 := hSw; go_simp; (try with_reducible rfl); done)); (try simp only [Act.put, pA, pB, pC]))
 refine wpAnyH_done (by kernel_rfl) ?_ _
 have HXa := Lib.hid hHeld
 have HBa := Lib.hid (below_then HWd.out (below_then HB1.out HB2.out))
 clear hHeld
 have k0 := (cell_of_row w2 w.heap.size 0 _ _ _ HXa.out).trans HH.out.1
 have k5 := (cell_of_row w2 w.heap.size 5 _ _ _ HXa.out).trans HH.out.2.2.2.1
 have k6 := (cell_of_row w2 w.heap.size 6 _ _ _ HXa.out).trans HH.out.2.2.2.2.1
 have k10 := (cell_of_row w2 w.heap.size 10 _ _ _ HXa.out).trans HH.out.2.2.2.2.2.1
 have k11 := (cell_of_row w2 w.heap.size 11 _ _ _ HXa.out).trans HH.out.2.2.2.2.2.2.1
 have k12 := (cell_of_row w2 w.heap.size 12 _ _ _ HXa.out).trans HH.out.2.2.2.2.2.2.2
 cases hA : inB x.from_ 0 2932896
 all_goals
  go_wp2_with (first | (go_at_call 24; refine (ref_in _ _ _ _).mono ?_; rintro e w6 ⟨rfl, rfl⟩) | (go_at_call 25; refine (HGo.out _).mono ?_; rintro e w8 ⟨rfl, hb⟩; clear k0 k5 k6 k10 k11 k12; have HXb := Lib.hid (heap_on hb HXa.out); have HBb := Lib.hid (below_then HBa.out hb); clear hb; have k0 := (cell_of_row w8 w.heap.size 0 _ _ _ HXb.out).trans HH.out.1; have k1 := (cell_of_row w8 w.heap.size 1 _ _ _ HXb.out).trans HH.out.2.1; have k2 := (cell_of_row w8 w.heap.size 2 _ _ _ HXb.out).trans HH.out.2.2.1; refine Stop.out ?_))
  all_goals
   unfold Stop
   go_wp2_with (first | (go_at_call 24; refine (ref_in _ _ _ _).mono ?_; rintro e w6 ⟨rfl, rfl⟩) | (go_at_call 27; refine (HRt.out _).mono ?_; rintro e w9 ⟨rfl, hb⟩; have HBc := Lib.hid (below_then HBb.out hb); clear hb))
   all_goals (go_ret; exact ⟨ret_bool (by rw [← HV.out]; clear HH HXa HBa HXb HBb HV; (try clear k0); (try clear k1); (try clear k2); (try clear k3); (try clear k4); (try clear k5); (try clear k6); (try clear k7); (try clear k8); (try clear k9); (try clear k10); (try clear k11); (try clear k12); (try clear k13); (try clear k14); (try clear k15); (try clear k16); (try clear k17); (try clear k18); (try clear k19); (try clear k20); (try clear k21); (try clear HXc HBc); simp_all), by first | exact HBc.out | exact HBb.out⟩)
end Go.Proofs.YtmjjenemokojjaaGreat
