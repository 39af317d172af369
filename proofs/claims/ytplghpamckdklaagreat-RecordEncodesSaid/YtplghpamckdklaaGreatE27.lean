/- Commands: what may be: the document's, by what it calls. Commands: what may be: the document's, by what it calls. -/
import Derived.Test.YtplghpamckdklaaGreatE26
import Derived.WalkMore
namespace Go.Proofs.YtplghpamckdklaaGreat
open Go.RowKit
set_option maxRecDepth 100000
set_option linter.unusedSimpArgs false
set_option linter.unusedVariables false

set_option maxHeartbeats 4000000 in
theorem refGood_5 (cs u : Array Value) (x : CmdV) (V : Bool) (w : World) (hs : cs.size = 22) (h0 : cs[0]? = some (.int .i64 5)) (h2 : cs[2]? = some (.string x.text)) (h5 : cs[5]? = some (.int .i64 x.from_)) (h6 : cs[6]? = some (.int .i64 x.until_)) (h7 : cs[7]? = some (.int .i64 x.num)) (h8 : cs[8]? = some (.int .i64 x.den)) (h10 : cs[10]? = some (.int .i64 x.pk)) (h11 : cs[11]? = some (.int .i64 x.py)) (h12 : cs[12]? = some (.int .i64 x.pi)) (HU : Hid (∀ W, Calls Tryz.prog 23 #[.agg cs] W fun e w1 => e = .returned (.agg u) ∧ Below W.heap.size W w1)) (HSm : Hid (∀ W, Below w.heap.size w W → Calls Tryz.prog 17 #[.agg cs, .agg u] W fun e w1 => e = .returned (.bool true) ∧ Below W.heap.size W w1)) (hz : x.text.size ≤ 140737488351232) (hV : (currB x.text && Civ.good x.pk x.py x.pi && (x.pk == 2) && inB x.num 1 1099511627776 && inB x.den 1 1099511627776) = V) : Calls Tryz.prog 9 #[.agg cs] w fun e w1 => e = .returned (.bool V) ∧ Below w.heap.size w w1 := by
 have HH := Lib.hid (And.intro h0 (And.intro h2 (And.intro h5 (And.intro h6 (And.intro h7 (And.intro h8 (And.intro h10 (And.intro h11 (h12)))))))))
 clear h0 h2 h5 h6 h7 h8 h10 h11 h12
 have HCu : Hid (∀ W, Calls Tryz.prog 28 #[.string x.text] W fun e w1 => e = .returned (.bool (currB x.text)) ∧ W = w1) := Lib.hid (fun W => ref_currency x.text W (by omega))
 generalize currB x.text = m at HCu hV
 clear hz
 have HGo : Hid (∀ W, Calls Tryz.prog 25 #[.agg #[.int .i64 x.pk, .int .i64 x.py, .int .i64 x.pi]] W fun e w1 => e = .returned (.bool (Civ.good x.pk x.py x.pi)) ∧ Below W.heap.size W w1) := Lib.hid (fun W => Civs.ref_good x.pk x.py x.pi W)
 generalize Civ.good x.pk x.py x.pi = gd at HGo hV
 have HV := Lib.hid hV
 clear hV
 have HXd := Lib.hid (heap_on (below_drew _) (heap_alloc_new w (.cells cs 28)))
 have HWd := Lib.hid (below_then (below_alloc w (.cells cs 28)) (below_drew _))
 have HI := Lib.hid (cmd_info hs)
 clear hs
 go_enter Tryz.func9, Tryz.ntmps9
 go_wp2
 refine wp_region_held_drew (S := fun V => V.heap[w.heap.size]? = some (.cells cs 28 (0, 0))) (by kernel_rfl) HXd.out ?_
 intro hHeld
 clear HXd
 generalize World.drew _ = wd at HWd hHeld ⊢
 (refine takeH (i := 0) (v := .agg cs) rfl (by kernel_rfl) (by kernel_rfl) (by kernel_rfl) (fun _ _ _ h => h) (Or.inl ⟨by rfl, fun wS hSw => exec_load_row 28 (.tmp 1) rfl w.heap.size rfl 28 cs (0, 0) _ hSw Tryz.underlying28 rfl HI.out⟩) (by assumption) ?_; (try simp only [Act.put, pA, pB, pC]))
 (refine takeH (i := 1) (v := .agg cs) rfl (by kernel_rfl) (by kernel_rfl) (by kernel_rfl) (fun _ _ _ h => h) (Or.inl ⟨by rfl, fun wS hSw => exec_load_row 28 (.tmp 1) rfl w.heap.size rfl 28 cs (0, 0) _ hSw Tryz.underlying28 rfl HI.out⟩) (by assumption) ?_; (try simp only [Act.put, pA, pB, pC]))
 refine aloneH (i := 2) rfl (by kernel_rfl) (fun K hK => ?_)
 rw [if_pos (by rfl)]
 go_simp; ((refine (HU.out _).mono ?_); (rintro e w1 ⟨rfl, hb⟩); have HB1 := Lib.hid hb; clear hb; (try go_simp))
 refine hK.out _ _ (heap_on HB1.out hHeld) ?_
 clear hK K hHeld; intro hHeld; (try simp only [Act.put, pA, pB, pC])
 refine aloneH (i := 3) rfl (by kernel_rfl) (fun K hK => ?_)
 rw [if_pos (by rfl)]
 go_simp; ((refine (HSm.out _ (below_then HWd.out HB1.out)).mono ?_); (rintro e w2 ⟨rfl, hb⟩); have HB2 := Lib.hid hb; clear hb; (try go_simp))
 refine hK.out _ _ (heap_on HB2.out hHeld) ?_
 clear hK K hHeld; intro hHeld; (try simp only [Act.put, pA, pB, pC])
 (refine takeP (i := 4) ?_ rfl (.inl ⟨by rfl, ?_⟩) ?_; rotate_left; (focus ((intro wS hSw); (try dsimp only at hSw); have s0 := hSw; go_simp; (try with_reducible rfl); done)); (try simp only [Act.put, pA, pB, pC]))
 refine wpAnyH_done (by kernel_rfl) ?_ _
 have HXa := Lib.hid hHeld
 have HBa := Lib.hid (below_then HWd.out (below_then HB1.out HB2.out))
 clear hHeld
 have k0 := (cell_of_row w2 w.heap.size 0 _ _ _ HXa.out).trans HH.out.1
 have k5 := (cell_of_row w2 w.heap.size 5 _ _ _ HXa.out).trans HH.out.2.2.1
 have k6 := (cell_of_row w2 w.heap.size 6 _ _ _ HXa.out).trans HH.out.2.2.2.1
 have k10 := (cell_of_row w2 w.heap.size 10 _ _ _ HXa.out).trans HH.out.2.2.2.2.2.2.1
 have k11 := (cell_of_row w2 w.heap.size 11 _ _ _ HXa.out).trans HH.out.2.2.2.2.2.2.2.1
 have k12 := (cell_of_row w2 w.heap.size 12 _ _ _ HXa.out).trans HH.out.2.2.2.2.2.2.2.2
 cases hA : inB x.from_ 0 2932896
 all_goals
  go_wp2_with (first | (go_at_call 24; refine (ref_in _ _ _ _).mono ?_; rintro e w6 ⟨rfl, rfl⟩) | (go_at_call 25; refine (HGo.out _).mono ?_; rintro e w8 ⟨rfl, hb⟩; clear k0 k5 k6 k10 k11 k12; have HXb := Lib.hid (heap_on hb HXa.out); have HBb := Lib.hid (below_then HBa.out hb); clear hb; have k0 := (cell_of_row w8 w.heap.size 0 _ _ _ HXb.out).trans HH.out.1; have k2 := (cell_of_row w8 w.heap.size 2 _ _ _ HXb.out).trans HH.out.2.1; have k7 := (cell_of_row w8 w.heap.size 7 _ _ _ HXb.out).trans HH.out.2.2.2.2.1; have k8 := (cell_of_row w8 w.heap.size 8 _ _ _ HXb.out).trans HH.out.2.2.2.2.2.1; have k10 := (cell_of_row w8 w.heap.size 10 _ _ _ HXb.out).trans HH.out.2.2.2.2.2.2.1; have k11 := (cell_of_row w8 w.heap.size 11 _ _ _ HXb.out).trans HH.out.2.2.2.2.2.2.2.1; have k12 := (cell_of_row w8 w.heap.size 12 _ _ _ HXb.out).trans HH.out.2.2.2.2.2.2.2.2; refine Stop.out ?_))
  all_goals
   unfold Stop
   go_wp2_with (first | (go_at_call 24; refine (ref_in _ _ _ _).mono ?_; rintro e w6 ⟨rfl, rfl⟩) | (go_at_call 28; refine (HCu.out _).mono ?_; rintro e w9 ⟨rfl, rfl⟩))
   all_goals (go_ret; exact ⟨ret_bool (by rw [← HV.out]; clear HH HXa HBa HXb HBb HV; (try clear k0); (try clear k1); (try clear k2); (try clear k3); (try clear k4); (try clear k5); (try clear k6); (try clear k7); (try clear k8); (try clear k9); (try clear k10); (try clear k11); (try clear k12); (try clear k13); (try clear k14); (try clear k15); (try clear k16); (try clear k17); (try clear k18); (try clear k19); (try clear k20); (try clear k21); (try clear HXc HBc); simp_all), by first | exact HBc.out | exact HBb.out⟩)
set_option maxHeartbeats 4000000 in
theorem refGood_6 (cs u : Array Value) (x : CmdV) (V : Bool) (w : World) (hs : cs.size = 22) (h0 : cs[0]? = some (.int .i64 6)) (h2 : cs[2]? = some (.string x.text)) (h5 : cs[5]? = some (.int .i64 x.from_)) (h6 : cs[6]? = some (.int .i64 x.until_)) (h10 : cs[10]? = some (.int .i64 x.pk)) (h11 : cs[11]? = some (.int .i64 x.py)) (h12 : cs[12]? = some (.int .i64 x.pi)) (HU : Hid (∀ W, Calls Tryz.prog 23 #[.agg cs] W fun e w1 => e = .returned (.agg u) ∧ Below W.heap.size W w1)) (HSm : Hid (∀ W, Below w.heap.size w W → Calls Tryz.prog 17 #[.agg cs, .agg u] W fun e w1 => e = .returned (.bool true) ∧ Below W.heap.size W w1)) (hz : x.text.size ≤ 140737488351232) (hV : (decide (x.text.size ≤ 65536)) = V) : Calls Tryz.prog 9 #[.agg cs] w fun e w1 => e = .returned (.bool V) ∧ Below w.heap.size w w1 := by
 have HH := Lib.hid (And.intro h0 (And.intro h2 (And.intro h5 (And.intro h6 (And.intro h10 (And.intro h11 (h12)))))))
 clear h0 h2 h5 h6 h10 h11 h12
 have hz2 : (x.text.size : Int) ≤ 140737488351232 := by omega
 have HGo : Hid (∀ W, Calls Tryz.prog 25 #[.agg #[.int .i64 x.pk, .int .i64 x.py, .int .i64 x.pi]] W fun e w1 => e = .returned (.bool (Civ.good x.pk x.py x.pi)) ∧ Below W.heap.size W w1) := Lib.hid (fun W => Civs.ref_good x.pk x.py x.pi W)
 generalize Civ.good x.pk x.py x.pi = gd at HGo hV
 have HV := Lib.hid hV
 clear hV
 have HXd := Lib.hid (heap_on (below_drew _) (heap_alloc_new w (.cells cs 28)))
 have HWd := Lib.hid (below_then (below_alloc w (.cells cs 28)) (below_drew _))
 have HI := Lib.hid (cmd_info hs)
 clear hs
 go_enter Tryz.func9, Tryz.ntmps9
 go_wp2
 refine wp_region_held_drew (S := fun V => V.heap[w.heap.size]? = some (.cells cs 28 (0, 0))) (by kernel_rfl) HXd.out ?_
 intro hHeld
 clear HXd
 generalize World.drew _ = wd at HWd hHeld ⊢
 (refine takeH (i := 0) (v := .agg cs) rfl (by kernel_rfl) (by kernel_rfl) (by kernel_rfl) (fun _ _ _ h => h) (Or.inl ⟨by rfl, fun wS hSw => exec_load_row 28 (.tmp 1) rfl w.heap.size rfl 28 cs (0, 0) _ hSw Tryz.underlying28 rfl HI.out⟩) (by assumption) ?_; (try simp only [Act.put, pA, pB, pC]))
 (refine takeH (i := 1) (v := .agg cs) rfl (by kernel_rfl) (by kernel_rfl) (by kernel_rfl) (fun _ _ _ h => h) (Or.inl ⟨by rfl, fun wS hSw => exec_load_row 28 (.tmp 1) rfl w.heap.size rfl 28 cs (0, 0) _ hSw Tryz.underlying28 rfl HI.out⟩) (by assumption) ?_; (try simp only [Act.put, pA, pB, pC]))
 refine aloneH (i := 2) rfl (by kernel_rfl) (fun K hK => ?_)
 rw [if_pos (by rfl)]
 go_simp; ((refine (HU.out _).mono ?_); (rintro e w1 ⟨rfl, hb⟩); have HB1 := Lib.hid hb; clear hb; (try go_simp))
 refine hK.out _ _ (heap_on HB1.out hHeld) ?_
 clear hK K hHeld; intro hHeld; (try simp only [Act.put, pA, pB, pC])
 refine aloneH (i := 3) rfl (by kernel_rfl) (fun K hK => ?_)
 rw [if_pos (by rfl)]
 go_simp; ((refine (HSm.out _ (below_then HWd.out HB1.out)).mono ?_); (rintro e w2 ⟨rfl, hb⟩); have HB2 := Lib.hid hb; clear hb; (try go_simp))
 refine hK.out _ _ (heap_on HB2.out hHeld) ?_
 clear hK K hHeld; intro hHeld; (try simp only [Act.put, pA, pB, pC])
 (refine takeP (i := 4) ?_ rfl (.inl ⟨by rfl, ?_⟩) ?_; rotate_left; (focus ((intro wS hSw); (try dsimp only at hSw); have s0 := hSw; go_simp; (try with_reducible rfl); done)); (try simp only [Act.put, pA, pB, pC]))
 refine wpAnyH_done (by kernel_rfl) ?_ _
 have HXa := Lib.hid hHeld
 have HBa := Lib.hid (below_then HWd.out (below_then HB1.out HB2.out))
 clear hHeld
 have k0 := (cell_of_row w2 w.heap.size 0 _ _ _ HXa.out).trans HH.out.1
 have k5 := (cell_of_row w2 w.heap.size 5 _ _ _ HXa.out).trans HH.out.2.2.1
 have k6 := (cell_of_row w2 w.heap.size 6 _ _ _ HXa.out).trans HH.out.2.2.2.1
 have k10 := (cell_of_row w2 w.heap.size 10 _ _ _ HXa.out).trans HH.out.2.2.2.2.1
 have k11 := (cell_of_row w2 w.heap.size 11 _ _ _ HXa.out).trans HH.out.2.2.2.2.2.1
 have k12 := (cell_of_row w2 w.heap.size 12 _ _ _ HXa.out).trans HH.out.2.2.2.2.2.2
 cases hA : inB x.from_ 0 2932896
 all_goals
  go_wp2_with (first | (go_at_call 24; refine (ref_in _ _ _ _).mono ?_; rintro e w6 ⟨rfl, rfl⟩) | (go_at_call 25; refine (HGo.out _).mono ?_; rintro e w8 ⟨rfl, hb⟩; clear k0 k5 k6 k10 k11 k12; have HXb := Lib.hid (heap_on hb HXa.out); have HBb := Lib.hid (below_then HBa.out hb); clear hb; have k0 := (cell_of_row w8 w.heap.size 0 _ _ _ HXb.out).trans HH.out.1; have k2 := (cell_of_row w8 w.heap.size 2 _ _ _ HXb.out).trans HH.out.2.1; refine Stop.out ?_))
  all_goals
   unfold Stop
   go_wp2_with (first | (go_at_call 24; refine (ref_in _ _ _ _).mono ?_; rintro e w6 ⟨rfl, rfl⟩))
   all_goals (go_ret; exact ⟨ret_bool (by rw [← HV.out]; clear HH HXa HBa HXb HBb HV; (try clear k0); (try clear k1); (try clear k2); (try clear k3); (try clear k4); (try clear k5); (try clear k6); (try clear k7); (try clear k8); (try clear k9); (try clear k10); (try clear k11); (try clear k12); (try clear k13); (try clear k14); (try clear k15); (try clear k16); (try clear k17); (try clear k18); (try clear k19); (try clear k20); (try clear k21); (try clear HXc HBc); (simp; try omega)), by first | exact HBc.out | exact HBb.out⟩)
set_option maxHeartbeats 4000000 in
theorem refGood_7 (cs u : Array Value) (x : CmdV) (V : Bool) (w : World) (hs : cs.size = 22) (h0 : cs[0]? = some (.int .i64 7)) (h5 : cs[5]? = some (.int .i64 x.from_)) (h6 : cs[6]? = some (.int .i64 x.until_)) (h7 : cs[7]? = some (.int .i64 x.num)) (h10 : cs[10]? = some (.int .i64 x.pk)) (h11 : cs[11]? = some (.int .i64 x.py)) (h12 : cs[12]? = some (.int .i64 x.pi)) (HU : Hid (∀ W, Calls Tryz.prog 23 #[.agg cs] W fun e w1 => e = .returned (.agg u) ∧ Below W.heap.size W w1)) (HSm : Hid (∀ W, Below w.heap.size w W → Calls Tryz.prog 17 #[.agg cs, .agg u] W fun e w1 => e = .returned (.bool true) ∧ Below W.heap.size W w1)) (hV : (Civ.good x.pk x.py x.pi && (x.pk == 3) && inB x.num 0 100) = V) : Calls Tryz.prog 9 #[.agg cs] w fun e w1 => e = .returned (.bool V) ∧ Below w.heap.size w w1 := by
 have HH := Lib.hid (And.intro h0 (And.intro h5 (And.intro h6 (And.intro h7 (And.intro h10 (And.intro h11 (h12)))))))
 clear h0 h5 h6 h7 h10 h11 h12
 have HGo : Hid (∀ W, Calls Tryz.prog 25 #[.agg #[.int .i64 x.pk, .int .i64 x.py, .int .i64 x.pi]] W fun e w1 => e = .returned (.bool (Civ.good x.pk x.py x.pi)) ∧ Below W.heap.size W w1) := Lib.hid (fun W => Civs.ref_good x.pk x.py x.pi W)
 generalize Civ.good x.pk x.py x.pi = gd at HGo hV
 have HV := Lib.hid hV
 clear hV
 have HXd := Lib.hid (heap_on (below_drew _) (heap_alloc_new w (.cells cs 28)))
 have HWd := Lib.hid (below_then (below_alloc w (.cells cs 28)) (below_drew _))
 have HI := Lib.hid (cmd_info hs)
 clear hs
 go_enter Tryz.func9, Tryz.ntmps9
 go_wp2
 refine wp_region_held_drew (S := fun V => V.heap[w.heap.size]? = some (.cells cs 28 (0, 0))) (by kernel_rfl) HXd.out ?_
 intro hHeld
 clear HXd
 generalize World.drew _ = wd at HWd hHeld ⊢
 (refine takeH (i := 0) (v := .agg cs) rfl (by kernel_rfl) (by kernel_rfl) (by kernel_rfl) (fun _ _ _ h => h) (Or.inl ⟨by rfl, fun wS hSw => exec_load_row 28 (.tmp 1) rfl w.heap.size rfl 28 cs (0, 0) _ hSw Tryz.underlying28 rfl HI.out⟩) (by assumption) ?_; (try simp only [Act.put, pA, pB, pC]))
 (refine takeH (i := 1) (v := .agg cs) rfl (by kernel_rfl) (by kernel_rfl) (by kernel_rfl) (fun _ _ _ h => h) (Or.inl ⟨by rfl, fun wS hSw => exec_load_row 28 (.tmp 1) rfl w.heap.size rfl 28 cs (0, 0) _ hSw Tryz.underlying28 rfl HI.out⟩) (by assumption) ?_; (try simp only [Act.put, pA, pB, pC]))
 refine aloneH (i := 2) rfl (by kernel_rfl) (fun K hK => ?_)
 rw [if_pos (by rfl)]
 go_simp; ((refine (HU.out _).mono ?_); (rintro e w1 ⟨rfl, hb⟩); have HB1 := Lib.hid hb; clear hb; (try go_simp))
 refine hK.out _ _ (heap_on HB1.out hHeld) ?_
 clear hK K hHeld; intro hHeld; (try simp only [Act.put, pA, pB, pC])
 refine aloneH (i := 3) rfl (by kernel_rfl) (fun K hK => ?_)
 rw [if_pos (by rfl)]
 go_simp; ((refine (HSm.out _ (below_then HWd.out HB1.out)).mono ?_); (rintro e w2 ⟨rfl, hb⟩); have HB2 := Lib.hid hb; clear hb; (try go_simp))
 refine hK.out _ _ (heap_on HB2.out hHeld) ?_
 clear hK K hHeld; intro hHeld; (try simp only [Act.put, pA, pB, pC])
 (refine takeP (i := 4) ?_ rfl (.inl ⟨by rfl, ?_⟩) ?_; rotate_left; (focus ((intro wS hSw); (try dsimp only at hSw); have s0 := hSw; go_simp; (try with_reducible rfl); done)); (try simp only [Act.put, pA, pB, pC]))
 refine wpAnyH_done (by kernel_rfl) ?_ _
 have HXa := Lib.hid hHeld
 have HBa := Lib.hid (below_then HWd.out (below_then HB1.out HB2.out))
 clear hHeld
 have k0 := (cell_of_row w2 w.heap.size 0 _ _ _ HXa.out).trans HH.out.1
 have k5 := (cell_of_row w2 w.heap.size 5 _ _ _ HXa.out).trans HH.out.2.1
 have k6 := (cell_of_row w2 w.heap.size 6 _ _ _ HXa.out).trans HH.out.2.2.1
 have k10 := (cell_of_row w2 w.heap.size 10 _ _ _ HXa.out).trans HH.out.2.2.2.2.1
 have k11 := (cell_of_row w2 w.heap.size 11 _ _ _ HXa.out).trans HH.out.2.2.2.2.2.1
 have k12 := (cell_of_row w2 w.heap.size 12 _ _ _ HXa.out).trans HH.out.2.2.2.2.2.2
 cases hA : inB x.from_ 0 2932896
 all_goals
  go_wp2_with (first | (go_at_call 24; refine (ref_in _ _ _ _).mono ?_; rintro e w6 ⟨rfl, rfl⟩) | (go_at_call 25; refine (HGo.out _).mono ?_; rintro e w8 ⟨rfl, hb⟩; clear k0 k5 k6 k10 k11 k12; have HXb := Lib.hid (heap_on hb HXa.out); have HBb := Lib.hid (below_then HBa.out hb); clear hb; have k0 := (cell_of_row w8 w.heap.size 0 _ _ _ HXb.out).trans HH.out.1; have k7 := (cell_of_row w8 w.heap.size 7 _ _ _ HXb.out).trans HH.out.2.2.2.1; have k10 := (cell_of_row w8 w.heap.size 10 _ _ _ HXb.out).trans HH.out.2.2.2.2.1; have k11 := (cell_of_row w8 w.heap.size 11 _ _ _ HXb.out).trans HH.out.2.2.2.2.2.1; have k12 := (cell_of_row w8 w.heap.size 12 _ _ _ HXb.out).trans HH.out.2.2.2.2.2.2; refine Stop.out ?_))
  all_goals
   unfold Stop
   go_wp2_with (first | (go_at_call 24; refine (ref_in _ _ _ _).mono ?_; rintro e w6 ⟨rfl, rfl⟩))
   all_goals (go_ret; exact ⟨ret_bool (by rw [← HV.out]; clear HH HXa HBa HXb HBb HV; (try clear k0); (try clear k1); (try clear k2); (try clear k3); (try clear k4); (try clear k5); (try clear k6); (try clear k7); (try clear k8); (try clear k9); (try clear k10); (try clear k11); (try clear k12); (try clear k13); (try clear k14); (try clear k15); (try clear k16); (try clear k17); (try clear k18); (try clear k19); (try clear k20); (try clear k21); (try clear HXc HBc); simp_all), by first | exact HBc.out | exact HBb.out⟩)
set_option maxHeartbeats 4000000 in
theorem refGood_8 (cs u : Array Value) (x : CmdV) (V : Bool) (w : World) (hs : cs.size = 22) (h0 : cs[0]? = some (.int .i64 8)) (h5 : cs[5]? = some (.int .i64 x.from_)) (h6 : cs[6]? = some (.int .i64 x.until_)) (h10 : cs[10]? = some (.int .i64 x.pk)) (h11 : cs[11]? = some (.int .i64 x.py)) (h12 : cs[12]? = some (.int .i64 x.pi)) (h13 : cs[13]? = some (.string x.id)) (h14 : cs[14]? = some (.bool x.sale)) (h15 : cs[15]? = some (.bool x.credit)) (h16 : cs[16]? = some (.string x.refers)) (h17 : cs[17]? = some (.int .i64 x.day)) (h18 : cs[18]? = some (.string x.country)) (h19 : cs[19]? = some (.string x.number)) (h20 : cs[20]? = some (.string x.currency)) (h21 : cs[21]? = some (.slice x.linesA x.lines.length x.linesC)) (HU : Hid (∀ W, Calls Tryz.prog 23 #[.agg cs] W fun e w1 => e = .returned (.agg u) ∧ Below W.heap.size W w1)) (HSm : Hid (∀ W, Below w.heap.size w W → Calls Tryz.prog 17 #[.agg cs, .agg u] W fun e w1 => e = .returned (.bool true) ∧ Below W.heap.size W w1)) (HD : Hid (∀ W, Below w.heap.size w W → Calls Tryz.prog 11 #[.agg #[.string x.id, .bool x.sale, .bool x.credit, .string x.refers, .int .i64 x.day, .string x.country, .string x.number, .string x.currency, .slice x.linesA x.lines.length x.linesC]] W fun e w1 => e = .returned (.bool (docGood (docOf x) (rightP x.country x.number) (currB x.currency))) ∧ Below W.heap.size W w1)) (hV : (docGood (docOf x) (rightP x.country x.number) (currB x.currency)) = V) : Calls Tryz.prog 9 #[.agg cs] w fun e w1 => e = .returned (.bool V) ∧ Below w.heap.size w w1 := by
 have HH := Lib.hid (And.intro h0 (And.intro h5 (And.intro h6 (And.intro h10 (And.intro h11 (And.intro h12 (And.intro h13 (And.intro h14 (And.intro h15 (And.intro h16 (And.intro h17 (And.intro h18 (And.intro h19 (And.intro h20 (h21)))))))))))))))
 clear h0 h5 h6 h10 h11 h12 h13 h14 h15 h16 h17 h18 h19 h20 h21
 generalize docGood (docOf x) (rightP x.country x.number) (currB x.currency) = m at HD hV
 have HGo : Hid (∀ W, Calls Tryz.prog 25 #[.agg #[.int .i64 x.pk, .int .i64 x.py, .int .i64 x.pi]] W fun e w1 => e = .returned (.bool (Civ.good x.pk x.py x.pi)) ∧ Below W.heap.size W w1) := Lib.hid (fun W => Civs.ref_good x.pk x.py x.pi W)
 generalize Civ.good x.pk x.py x.pi = gd at HGo hV
 have HV := Lib.hid hV
 clear hV
 have HXd := Lib.hid (heap_on (below_drew _) (heap_alloc_new w (.cells cs 28)))
 have HWd := Lib.hid (below_then (below_alloc w (.cells cs 28)) (below_drew _))
 have HI := Lib.hid (cmd_info hs)
 clear hs
 go_enter Tryz.func9, Tryz.ntmps9
 go_wp2
 refine wp_region_held_drew (S := fun V => V.heap[w.heap.size]? = some (.cells cs 28 (0, 0))) (by kernel_rfl) HXd.out ?_
 intro hHeld
 clear HXd
 generalize World.drew _ = wd at HWd hHeld ⊢
 (refine takeH (i := 0) (v := .agg cs) rfl (by kernel_rfl) (by kernel_rfl) (by kernel_rfl) (fun _ _ _ h => h) (Or.inl ⟨by rfl, fun wS hSw => exec_load_row 28 (.tmp 1) rfl w.heap.size rfl 28 cs (0, 0) _ hSw Tryz.underlying28 rfl HI.out⟩) (by assumption) ?_; (try simp only [Act.put, pA, pB, pC]))
 (refine takeH (i := 1) (v := .agg cs) rfl (by kernel_rfl) (by kernel_rfl) (by kernel_rfl) (fun _ _ _ h => h) (Or.inl ⟨by rfl, fun wS hSw => exec_load_row 28 (.tmp 1) rfl w.heap.size rfl 28 cs (0, 0) _ hSw Tryz.underlying28 rfl HI.out⟩) (by assumption) ?_; (try simp only [Act.put, pA, pB, pC]))
 refine aloneH (i := 2) rfl (by kernel_rfl) (fun K hK => ?_)
 rw [if_pos (by rfl)]
 go_simp; ((refine (HU.out _).mono ?_); (rintro e w1 ⟨rfl, hb⟩); have HB1 := Lib.hid hb; clear hb; (try go_simp))
 refine hK.out _ _ (heap_on HB1.out hHeld) ?_
 clear hK K hHeld; intro hHeld; (try simp only [Act.put, pA, pB, pC])
 refine aloneH (i := 3) rfl (by kernel_rfl) (fun K hK => ?_)
 rw [if_pos (by rfl)]
 go_simp; ((refine (HSm.out _ (below_then HWd.out HB1.out)).mono ?_); (rintro e w2 ⟨rfl, hb⟩); have HB2 := Lib.hid hb; clear hb; (try go_simp))
 refine hK.out _ _ (heap_on HB2.out hHeld) ?_
 clear hK K hHeld; intro hHeld; (try simp only [Act.put, pA, pB, pC])
 (refine takeP (i := 4) ?_ rfl (.inl ⟨by rfl, ?_⟩) ?_; rotate_left; (focus ((intro wS hSw); (try dsimp only at hSw); have s0 := hSw; go_simp; (try with_reducible rfl); done)); (try simp only [Act.put, pA, pB, pC]))
 refine wpAnyH_done (by kernel_rfl) ?_ _
 have HXa := Lib.hid hHeld
 have HBa := Lib.hid (below_then HWd.out (below_then HB1.out HB2.out))
 clear hHeld
 have k0 := (cell_of_row w2 w.heap.size 0 _ _ _ HXa.out).trans HH.out.1
 have k5 := (cell_of_row w2 w.heap.size 5 _ _ _ HXa.out).trans HH.out.2.1
 have k6 := (cell_of_row w2 w.heap.size 6 _ _ _ HXa.out).trans HH.out.2.2.1
 have k10 := (cell_of_row w2 w.heap.size 10 _ _ _ HXa.out).trans HH.out.2.2.2.1
 have k11 := (cell_of_row w2 w.heap.size 11 _ _ _ HXa.out).trans HH.out.2.2.2.2.1
 have k12 := (cell_of_row w2 w.heap.size 12 _ _ _ HXa.out).trans HH.out.2.2.2.2.2.1
 cases hA : inB x.from_ 0 2932896
 all_goals
  go_wp2_with (first | (go_at_call 24; refine (ref_in _ _ _ _).mono ?_; rintro e w6 ⟨rfl, rfl⟩) | (go_at_call 25; refine (HGo.out _).mono ?_; rintro e w8 ⟨rfl, hb⟩; clear k0 k5 k6 k10 k11 k12; have HXb := Lib.hid (heap_on hb HXa.out); have HBb := Lib.hid (below_then HBa.out hb); clear hb; have k0 := (cell_of_row w8 w.heap.size 0 _ _ _ HXb.out).trans HH.out.1; have k13 := (cell_of_row w8 w.heap.size 13 _ _ _ HXb.out).trans HH.out.2.2.2.2.2.2.1; have k14 := (cell_of_row w8 w.heap.size 14 _ _ _ HXb.out).trans HH.out.2.2.2.2.2.2.2.1; have k15 := (cell_of_row w8 w.heap.size 15 _ _ _ HXb.out).trans HH.out.2.2.2.2.2.2.2.2.1; have k16 := (cell_of_row w8 w.heap.size 16 _ _ _ HXb.out).trans HH.out.2.2.2.2.2.2.2.2.2.1; have k17 := (cell_of_row w8 w.heap.size 17 _ _ _ HXb.out).trans HH.out.2.2.2.2.2.2.2.2.2.2.1; have k18 := (cell_of_row w8 w.heap.size 18 _ _ _ HXb.out).trans HH.out.2.2.2.2.2.2.2.2.2.2.2.1; have k19 := (cell_of_row w8 w.heap.size 19 _ _ _ HXb.out).trans HH.out.2.2.2.2.2.2.2.2.2.2.2.2.1; have k20 := (cell_of_row w8 w.heap.size 20 _ _ _ HXb.out).trans HH.out.2.2.2.2.2.2.2.2.2.2.2.2.2.1; have k21 := (cell_of_row w8 w.heap.size 21 _ _ _ HXb.out).trans HH.out.2.2.2.2.2.2.2.2.2.2.2.2.2.2; refine Stop.out ?_))
  all_goals
   unfold Stop
   go_wp2_with (first | (go_at_call 24; refine (ref_in _ _ _ _).mono ?_; rintro e w6 ⟨rfl, rfl⟩) | (go_at_call 11; refine (HD.out _ HBb.out).mono ?_; rintro e w9 ⟨rfl, hb⟩; have HBc := Lib.hid (below_then HBb.out hb); clear hb))
   all_goals (go_ret; exact ⟨ret_bool HV.out, HBc.out⟩)
end Go.Proofs.YtplghpamckdklaaGreat

namespace Go.Proofs.YtplghpamckdklaaGreat
open Go.RowKit
set_option maxRecDepth 100000
set_option linter.unusedSimpArgs false
set_option linter.unusedVariables false

set_option maxHeartbeats 4000000 in
theorem refGood_9 (cs u : Array Value) (x : CmdV) (V : Bool) (w : World) (hs : cs.size = 22) (h0 : cs[0]? = some (.int .i64 9)) (h5 : cs[5]? = some (.int .i64 x.from_)) (h6 : cs[6]? = some (.int .i64 x.until_)) (h10 : cs[10]? = some (.int .i64 x.pk)) (h11 : cs[11]? = some (.int .i64 x.py)) (h12 : cs[12]? = some (.int .i64 x.pi)) (HU : Hid (∀ W, Calls Tryz.prog 23 #[.agg cs] W fun e w1 => e = .returned (.agg u) ∧ Below W.heap.size W w1)) (HSm : Hid (∀ W, Below w.heap.size w W → Calls Tryz.prog 17 #[.agg cs, .agg u] W fun e w1 => e = .returned (.bool true) ∧ Below W.heap.size W w1)) (hV : (Civ.good x.pk x.py x.pi && inB x.pk 1 2) = V) : Calls Tryz.prog 9 #[.agg cs] w fun e w1 => e = .returned (.bool V) ∧ Below w.heap.size w w1 := by
 have HH := Lib.hid (And.intro h0 (And.intro h5 (And.intro h6 (And.intro h10 (And.intro h11 (h12))))))
 clear h0 h5 h6 h10 h11 h12
 have HGo : Hid (∀ W, Calls Tryz.prog 25 #[.agg #[.int .i64 x.pk, .int .i64 x.py, .int .i64 x.pi]] W fun e w1 => e = .returned (.bool (Civ.good x.pk x.py x.pi)) ∧ Below W.heap.size W w1) := Lib.hid (fun W => Civs.ref_good x.pk x.py x.pi W)
 generalize Civ.good x.pk x.py x.pi = gd at HGo hV
 have HV := Lib.hid hV
 clear hV
 have HXd := Lib.hid (heap_on (below_drew _) (heap_alloc_new w (.cells cs 28)))
 have HWd := Lib.hid (below_then (below_alloc w (.cells cs 28)) (below_drew _))
 have HI := Lib.hid (cmd_info hs)
 clear hs
 go_enter Tryz.func9, Tryz.ntmps9
 go_wp2
 refine wp_region_held_drew (S := fun V => V.heap[w.heap.size]? = some (.cells cs 28 (0, 0))) (by kernel_rfl) HXd.out ?_
 intro hHeld
 clear HXd
 generalize World.drew _ = wd at HWd hHeld ⊢
 (refine takeH (i := 0) (v := .agg cs) rfl (by kernel_rfl) (by kernel_rfl) (by kernel_rfl) (fun _ _ _ h => h) (Or.inl ⟨by rfl, fun wS hSw => exec_load_row 28 (.tmp 1) rfl w.heap.size rfl 28 cs (0, 0) _ hSw Tryz.underlying28 rfl HI.out⟩) (by assumption) ?_; (try simp only [Act.put, pA, pB, pC]))
 (refine takeH (i := 1) (v := .agg cs) rfl (by kernel_rfl) (by kernel_rfl) (by kernel_rfl) (fun _ _ _ h => h) (Or.inl ⟨by rfl, fun wS hSw => exec_load_row 28 (.tmp 1) rfl w.heap.size rfl 28 cs (0, 0) _ hSw Tryz.underlying28 rfl HI.out⟩) (by assumption) ?_; (try simp only [Act.put, pA, pB, pC]))
 refine aloneH (i := 2) rfl (by kernel_rfl) (fun K hK => ?_)
 rw [if_pos (by rfl)]
 go_simp; ((refine (HU.out _).mono ?_); (rintro e w1 ⟨rfl, hb⟩); have HB1 := Lib.hid hb; clear hb; (try go_simp))
 refine hK.out _ _ (heap_on HB1.out hHeld) ?_
 clear hK K hHeld; intro hHeld; (try simp only [Act.put, pA, pB, pC])
 refine aloneH (i := 3) rfl (by kernel_rfl) (fun K hK => ?_)
 rw [if_pos (by rfl)]
 go_simp; ((refine (HSm.out _ (below_then HWd.out HB1.out)).mono ?_); (rintro e w2 ⟨rfl, hb⟩); have HB2 := Lib.hid hb; clear hb; (try go_simp))
 refine hK.out _ _ (heap_on HB2.out hHeld) ?_
 clear hK K hHeld; intro hHeld; (try simp only [Act.put, pA, pB, pC])
 (refine takeP (i := 4) ?_ rfl (.inl ⟨by rfl, ?_⟩) ?_; rotate_left; (focus ((intro wS hSw); (try dsimp only at hSw); have s0 := hSw; go_simp; (try with_reducible rfl); done)); (try simp only [Act.put, pA, pB, pC]))
 refine wpAnyH_done (by kernel_rfl) ?_ _
 have HXa := Lib.hid hHeld
 have HBa := Lib.hid (below_then HWd.out (below_then HB1.out HB2.out))
 clear hHeld
 have k0 := (cell_of_row w2 w.heap.size 0 _ _ _ HXa.out).trans HH.out.1
 have k5 := (cell_of_row w2 w.heap.size 5 _ _ _ HXa.out).trans HH.out.2.1
 have k6 := (cell_of_row w2 w.heap.size 6 _ _ _ HXa.out).trans HH.out.2.2.1
 have k10 := (cell_of_row w2 w.heap.size 10 _ _ _ HXa.out).trans HH.out.2.2.2.1
 have k11 := (cell_of_row w2 w.heap.size 11 _ _ _ HXa.out).trans HH.out.2.2.2.2.1
 have k12 := (cell_of_row w2 w.heap.size 12 _ _ _ HXa.out).trans HH.out.2.2.2.2.2
 cases hA : inB x.from_ 0 2932896
 all_goals
  go_wp2_with (first | (go_at_call 24; refine (ref_in _ _ _ _).mono ?_; rintro e w6 ⟨rfl, rfl⟩) | (go_at_call 25; refine (HGo.out _).mono ?_; rintro e w8 ⟨rfl, hb⟩; clear k0 k5 k6 k10 k11 k12; have HXb := Lib.hid (heap_on hb HXa.out); have HBb := Lib.hid (below_then HBa.out hb); clear hb; have k0 := (cell_of_row w8 w.heap.size 0 _ _ _ HXb.out).trans HH.out.1; have k10 := (cell_of_row w8 w.heap.size 10 _ _ _ HXb.out).trans HH.out.2.2.2.1; have k11 := (cell_of_row w8 w.heap.size 11 _ _ _ HXb.out).trans HH.out.2.2.2.2.1; have k12 := (cell_of_row w8 w.heap.size 12 _ _ _ HXb.out).trans HH.out.2.2.2.2.2; refine Stop.out ?_))
  all_goals
   unfold Stop
   go_wp2_with (first | (go_at_call 24; refine (ref_in _ _ _ _).mono ?_; rintro e w6 ⟨rfl, rfl⟩))
   all_goals (go_ret; exact ⟨ret_bool (by rw [← HV.out]; clear HH HXa HBa HXb HBb HV; (try clear k0); (try clear k1); (try clear k2); (try clear k3); (try clear k4); (try clear k5); (try clear k6); (try clear k7); (try clear k8); (try clear k9); (try clear k10); (try clear k11); (try clear k12); (try clear k13); (try clear k14); (try clear k15); (try clear k16); (try clear k17); (try clear k18); (try clear k19); (try clear k20); (try clear k21); (try clear HXc HBc); simp_all), by first | exact HBc.out | exact HBb.out⟩)
set_option maxHeartbeats 4000000 in
theorem refGood_10 (cs u : Array Value) (x : CmdV) (V : Bool) (w : World) (hs : cs.size = 22) (h0 : cs[0]? = some (.int .i64 10)) (h5 : cs[5]? = some (.int .i64 x.from_)) (h6 : cs[6]? = some (.int .i64 x.until_)) (h10 : cs[10]? = some (.int .i64 x.pk)) (h11 : cs[11]? = some (.int .i64 x.py)) (h12 : cs[12]? = some (.int .i64 x.pi)) (HU : Hid (∀ W, Calls Tryz.prog 23 #[.agg cs] W fun e w1 => e = .returned (.agg u) ∧ Below W.heap.size W w1)) (HSm : Hid (∀ W, Below w.heap.size w W → Calls Tryz.prog 17 #[.agg cs, .agg u] W fun e w1 => e = .returned (.bool true) ∧ Below W.heap.size W w1)) (hV : (Civ.good x.pk x.py x.pi && inB x.pk 1 2) = V) : Calls Tryz.prog 9 #[.agg cs] w fun e w1 => e = .returned (.bool V) ∧ Below w.heap.size w w1 := by
 have HH := Lib.hid (And.intro h0 (And.intro h5 (And.intro h6 (And.intro h10 (And.intro h11 (h12))))))
 clear h0 h5 h6 h10 h11 h12
 have HGo : Hid (∀ W, Calls Tryz.prog 25 #[.agg #[.int .i64 x.pk, .int .i64 x.py, .int .i64 x.pi]] W fun e w1 => e = .returned (.bool (Civ.good x.pk x.py x.pi)) ∧ Below W.heap.size W w1) := Lib.hid (fun W => Civs.ref_good x.pk x.py x.pi W)
 generalize Civ.good x.pk x.py x.pi = gd at HGo hV
 have HV := Lib.hid hV
 clear hV
 have HXd := Lib.hid (heap_on (below_drew _) (heap_alloc_new w (.cells cs 28)))
 have HWd := Lib.hid (below_then (below_alloc w (.cells cs 28)) (below_drew _))
 have HI := Lib.hid (cmd_info hs)
 clear hs
 go_enter Tryz.func9, Tryz.ntmps9
 go_wp2
 refine wp_region_held_drew (S := fun V => V.heap[w.heap.size]? = some (.cells cs 28 (0, 0))) (by kernel_rfl) HXd.out ?_
 intro hHeld
 clear HXd
 generalize World.drew _ = wd at HWd hHeld ⊢
 (refine takeH (i := 0) (v := .agg cs) rfl (by kernel_rfl) (by kernel_rfl) (by kernel_rfl) (fun _ _ _ h => h) (Or.inl ⟨by rfl, fun wS hSw => exec_load_row 28 (.tmp 1) rfl w.heap.size rfl 28 cs (0, 0) _ hSw Tryz.underlying28 rfl HI.out⟩) (by assumption) ?_; (try simp only [Act.put, pA, pB, pC]))
 (refine takeH (i := 1) (v := .agg cs) rfl (by kernel_rfl) (by kernel_rfl) (by kernel_rfl) (fun _ _ _ h => h) (Or.inl ⟨by rfl, fun wS hSw => exec_load_row 28 (.tmp 1) rfl w.heap.size rfl 28 cs (0, 0) _ hSw Tryz.underlying28 rfl HI.out⟩) (by assumption) ?_; (try simp only [Act.put, pA, pB, pC]))
 refine aloneH (i := 2) rfl (by kernel_rfl) (fun K hK => ?_)
 rw [if_pos (by rfl)]
 go_simp; ((refine (HU.out _).mono ?_); (rintro e w1 ⟨rfl, hb⟩); have HB1 := Lib.hid hb; clear hb; (try go_simp))
 refine hK.out _ _ (heap_on HB1.out hHeld) ?_
 clear hK K hHeld; intro hHeld; (try simp only [Act.put, pA, pB, pC])
 refine aloneH (i := 3) rfl (by kernel_rfl) (fun K hK => ?_)
 rw [if_pos (by rfl)]
 go_simp; ((refine (HSm.out _ (below_then HWd.out HB1.out)).mono ?_); (rintro e w2 ⟨rfl, hb⟩); have HB2 := Lib.hid hb; clear hb; (try go_simp))
 refine hK.out _ _ (heap_on HB2.out hHeld) ?_
 clear hK K hHeld; intro hHeld; (try simp only [Act.put, pA, pB, pC])
 (refine takeP (i := 4) ?_ rfl (.inl ⟨by rfl, ?_⟩) ?_; rotate_left; (focus ((intro wS hSw); (try dsimp only at hSw); have s0 := hSw; go_simp; (try with_reducible rfl); done)); (try simp only [Act.put, pA, pB, pC]))
 refine wpAnyH_done (by kernel_rfl) ?_ _
 have HXa := Lib.hid hHeld
 have HBa := Lib.hid (below_then HWd.out (below_then HB1.out HB2.out))
 clear hHeld
 have k0 := (cell_of_row w2 w.heap.size 0 _ _ _ HXa.out).trans HH.out.1
 have k5 := (cell_of_row w2 w.heap.size 5 _ _ _ HXa.out).trans HH.out.2.1
 have k6 := (cell_of_row w2 w.heap.size 6 _ _ _ HXa.out).trans HH.out.2.2.1
 have k10 := (cell_of_row w2 w.heap.size 10 _ _ _ HXa.out).trans HH.out.2.2.2.1
 have k11 := (cell_of_row w2 w.heap.size 11 _ _ _ HXa.out).trans HH.out.2.2.2.2.1
 have k12 := (cell_of_row w2 w.heap.size 12 _ _ _ HXa.out).trans HH.out.2.2.2.2.2
 cases hA : inB x.from_ 0 2932896
 all_goals
  go_wp2_with (first | (go_at_call 24; refine (ref_in _ _ _ _).mono ?_; rintro e w6 ⟨rfl, rfl⟩) | (go_at_call 25; refine (HGo.out _).mono ?_; rintro e w8 ⟨rfl, hb⟩; clear k0 k5 k6 k10 k11 k12; have HXb := Lib.hid (heap_on hb HXa.out); have HBb := Lib.hid (below_then HBa.out hb); clear hb; have k0 := (cell_of_row w8 w.heap.size 0 _ _ _ HXb.out).trans HH.out.1; have k10 := (cell_of_row w8 w.heap.size 10 _ _ _ HXb.out).trans HH.out.2.2.2.1; have k11 := (cell_of_row w8 w.heap.size 11 _ _ _ HXb.out).trans HH.out.2.2.2.2.1; have k12 := (cell_of_row w8 w.heap.size 12 _ _ _ HXb.out).trans HH.out.2.2.2.2.2; refine Stop.out ?_))
  all_goals
   unfold Stop
   go_wp2_with (first | (go_at_call 24; refine (ref_in _ _ _ _).mono ?_; rintro e w6 ⟨rfl, rfl⟩))
   all_goals (go_ret; exact ⟨ret_bool (by rw [← HV.out]; clear HH HXa HBa HXb HBb HV; (try clear k0); (try clear k1); (try clear k2); (try clear k3); (try clear k4); (try clear k5); (try clear k6); (try clear k7); (try clear k8); (try clear k9); (try clear k10); (try clear k11); (try clear k12); (try clear k13); (try clear k14); (try clear k15); (try clear k16); (try clear k17); (try clear k18); (try clear k19); (try clear k20); (try clear k21); (try clear HXc HBc); simp_all), by first | exact HBc.out | exact HBb.out⟩)
set_option maxHeartbeats 4000000 in
theorem refGood_11 (cs u : Array Value) (x : CmdV) (V : Bool) (w : World) (hs : cs.size = 22) (h0 : cs[0]? = some (.int .i64 11)) (h5 : cs[5]? = some (.int .i64 x.from_)) (h6 : cs[6]? = some (.int .i64 x.until_)) (h10 : cs[10]? = some (.int .i64 x.pk)) (h11 : cs[11]? = some (.int .i64 x.py)) (h12 : cs[12]? = some (.int .i64 x.pi)) (HU : Hid (∀ W, Calls Tryz.prog 23 #[.agg cs] W fun e w1 => e = .returned (.agg u) ∧ Below W.heap.size W w1)) (HSm : Hid (∀ W, Below w.heap.size w W → Calls Tryz.prog 17 #[.agg cs, .agg u] W fun e w1 => e = .returned (.bool true) ∧ Below W.heap.size W w1)) (hV : (Civ.good x.pk x.py x.pi && (x.pk == 3)) = V) : Calls Tryz.prog 9 #[.agg cs] w fun e w1 => e = .returned (.bool V) ∧ Below w.heap.size w w1 := by
 have HH := Lib.hid (And.intro h0 (And.intro h5 (And.intro h6 (And.intro h10 (And.intro h11 (h12))))))
 clear h0 h5 h6 h10 h11 h12
 have HGo : Hid (∀ W, Calls Tryz.prog 25 #[.agg #[.int .i64 x.pk, .int .i64 x.py, .int .i64 x.pi]] W fun e w1 => e = .returned (.bool (Civ.good x.pk x.py x.pi)) ∧ Below W.heap.size W w1) := Lib.hid (fun W => Civs.ref_good x.pk x.py x.pi W)
 generalize Civ.good x.pk x.py x.pi = gd at HGo hV
 have HV := Lib.hid hV
 clear hV
 have HXd := Lib.hid (heap_on (below_drew _) (heap_alloc_new w (.cells cs 28)))
 have HWd := Lib.hid (below_then (below_alloc w (.cells cs 28)) (below_drew _))
 have HI := Lib.hid (cmd_info hs)
 clear hs
 go_enter Tryz.func9, Tryz.ntmps9
 go_wp2
 refine wp_region_held_drew (S := fun V => V.heap[w.heap.size]? = some (.cells cs 28 (0, 0))) (by kernel_rfl) HXd.out ?_
 intro hHeld
 clear HXd
 generalize World.drew _ = wd at HWd hHeld ⊢
 (refine takeH (i := 0) (v := .agg cs) rfl (by kernel_rfl) (by kernel_rfl) (by kernel_rfl) (fun _ _ _ h => h) (Or.inl ⟨by rfl, fun wS hSw => exec_load_row 28 (.tmp 1) rfl w.heap.size rfl 28 cs (0, 0) _ hSw Tryz.underlying28 rfl HI.out⟩) (by assumption) ?_; (try simp only [Act.put, pA, pB, pC]))
 (refine takeH (i := 1) (v := .agg cs) rfl (by kernel_rfl) (by kernel_rfl) (by kernel_rfl) (fun _ _ _ h => h) (Or.inl ⟨by rfl, fun wS hSw => exec_load_row 28 (.tmp 1) rfl w.heap.size rfl 28 cs (0, 0) _ hSw Tryz.underlying28 rfl HI.out⟩) (by assumption) ?_; (try simp only [Act.put, pA, pB, pC]))
 refine aloneH (i := 2) rfl (by kernel_rfl) (fun K hK => ?_)
 rw [if_pos (by rfl)]
 go_simp; ((refine (HU.out _).mono ?_); (rintro e w1 ⟨rfl, hb⟩); have HB1 := Lib.hid hb; clear hb; (try go_simp))
 refine hK.out _ _ (heap_on HB1.out hHeld) ?_
 clear hK K hHeld; intro hHeld; (try simp only [Act.put, pA, pB, pC])
 refine aloneH (i := 3) rfl (by kernel_rfl) (fun K hK => ?_)
 rw [if_pos (by rfl)]
 go_simp; ((refine (HSm.out _ (below_then HWd.out HB1.out)).mono ?_); (rintro e w2 ⟨rfl, hb⟩); have HB2 := Lib.hid hb; clear hb; (try go_simp))
 refine hK.out _ _ (heap_on HB2.out hHeld) ?_
 clear hK K hHeld; intro hHeld; (try simp only [Act.put, pA, pB, pC])
 (refine takeP (i := 4) ?_ rfl (.inl ⟨by rfl, ?_⟩) ?_; rotate_left; (focus ((intro wS hSw); (try dsimp only at hSw); have s0 := hSw; go_simp; (try with_reducible rfl); done)); (try simp only [Act.put, pA, pB, pC]))
 refine wpAnyH_done (by kernel_rfl) ?_ _
 have HXa := Lib.hid hHeld
 have HBa := Lib.hid (below_then HWd.out (below_then HB1.out HB2.out))
 clear hHeld
 have k0 := (cell_of_row w2 w.heap.size 0 _ _ _ HXa.out).trans HH.out.1
 have k5 := (cell_of_row w2 w.heap.size 5 _ _ _ HXa.out).trans HH.out.2.1
 have k6 := (cell_of_row w2 w.heap.size 6 _ _ _ HXa.out).trans HH.out.2.2.1
 have k10 := (cell_of_row w2 w.heap.size 10 _ _ _ HXa.out).trans HH.out.2.2.2.1
 have k11 := (cell_of_row w2 w.heap.size 11 _ _ _ HXa.out).trans HH.out.2.2.2.2.1
 have k12 := (cell_of_row w2 w.heap.size 12 _ _ _ HXa.out).trans HH.out.2.2.2.2.2
 cases hA : inB x.from_ 0 2932896
 all_goals
  go_wp2_with (first | (go_at_call 24; refine (ref_in _ _ _ _).mono ?_; rintro e w6 ⟨rfl, rfl⟩) | (go_at_call 25; refine (HGo.out _).mono ?_; rintro e w8 ⟨rfl, hb⟩; clear k0 k5 k6 k10 k11 k12; have HXb := Lib.hid (heap_on hb HXa.out); have HBb := Lib.hid (below_then HBa.out hb); clear hb; have k0 := (cell_of_row w8 w.heap.size 0 _ _ _ HXb.out).trans HH.out.1; have k10 := (cell_of_row w8 w.heap.size 10 _ _ _ HXb.out).trans HH.out.2.2.2.1; have k11 := (cell_of_row w8 w.heap.size 11 _ _ _ HXb.out).trans HH.out.2.2.2.2.1; have k12 := (cell_of_row w8 w.heap.size 12 _ _ _ HXb.out).trans HH.out.2.2.2.2.2; refine Stop.out ?_))
  all_goals
   unfold Stop
   go_wp2_with (first | (go_at_call 24; refine (ref_in _ _ _ _).mono ?_; rintro e w6 ⟨rfl, rfl⟩))
   all_goals (go_ret; exact ⟨ret_bool (by rw [← HV.out]; clear HH HXa HBa HXb HBb HV; (try clear k0); (try clear k1); (try clear k2); (try clear k3); (try clear k4); (try clear k5); (try clear k6); (try clear k7); (try clear k8); (try clear k9); (try clear k10); (try clear k11); (try clear k12); (try clear k13); (try clear k14); (try clear k15); (try clear k16); (try clear k17); (try clear k18); (try clear k19); (try clear k20); (try clear k21); (try clear HXc HBc); simp_all), by first | exact HBc.out | exact HBb.out⟩)
set_option maxHeartbeats 4000000 in
theorem refGood_O (cs u : Array Value) (x : CmdV) (V : Bool) (w : World) (hs : cs.size = 22) (h0 : cs[0]? = some (.int .i64 x.kind)) (h5 : cs[5]? = some (.int .i64 x.from_)) (h6 : cs[6]? = some (.int .i64 x.until_)) (h10 : cs[10]? = some (.int .i64 x.pk)) (h11 : cs[11]? = some (.int .i64 x.py)) (h12 : cs[12]? = some (.int .i64 x.pi)) (HU : Hid (∀ W, Calls Tryz.prog 23 #[.agg cs] W fun e w1 => e = .returned (.agg u) ∧ Below W.heap.size W w1)) (HSm : Hid (∀ W, Below w.heap.size w W → Calls Tryz.prog 17 #[.agg cs, .agg u] W fun e w1 => e = .returned (.bool true) ∧ Below W.heap.size W w1)) (hk : x.kind < 1 ∨ 11 < x.kind) (hV : false = V) : Calls Tryz.prog 9 #[.agg cs] w fun e w1 => e = .returned (.bool V) ∧ Below w.heap.size w w1 := by
 have HH := Lib.hid (And.intro h0 (And.intro h5 (And.intro h6 (And.intro h10 (And.intro h11 (h12))))))
 clear h0 h5 h6 h10 h11 h12
 have e1 : (x.kind == 1) = false := beq_false_of_ne (by omega)
 have e2 : (x.kind == 2) = false := beq_false_of_ne (by omega)
 have e3 : (x.kind == 3) = false := beq_false_of_ne (by omega)
 have e4 : (x.kind == 4) = false := beq_false_of_ne (by omega)
 have e5 : (x.kind == 5) = false := beq_false_of_ne (by omega)
 have e6 : (x.kind == 6) = false := beq_false_of_ne (by omega)
 have e7 : (x.kind == 7) = false := beq_false_of_ne (by omega)
 have e8 : (x.kind == 8) = false := beq_false_of_ne (by omega)
 have e9 : (x.kind == 9) = false := beq_false_of_ne (by omega)
 have e10 : (x.kind == 10) = false := beq_false_of_ne (by omega)
 have e11 : (x.kind == 11) = false := beq_false_of_ne (by omega)
 clear hk
 have HGo : Hid (∀ W, Calls Tryz.prog 25 #[.agg #[.int .i64 x.pk, .int .i64 x.py, .int .i64 x.pi]] W fun e w1 => e = .returned (.bool (Civ.good x.pk x.py x.pi)) ∧ Below W.heap.size W w1) := Lib.hid (fun W => Civs.ref_good x.pk x.py x.pi W)
 generalize Civ.good x.pk x.py x.pi = gd at HGo hV
 have HV := Lib.hid hV
 clear hV
 have HXd := Lib.hid (heap_on (below_drew _) (heap_alloc_new w (.cells cs 28)))
 have HWd := Lib.hid (below_then (below_alloc w (.cells cs 28)) (below_drew _))
 have HI := Lib.hid (cmd_info hs)
 clear hs
 go_enter Tryz.func9, Tryz.ntmps9
 go_wp2
 refine wp_region_held_drew (S := fun V => V.heap[w.heap.size]? = some (.cells cs 28 (0, 0))) (by kernel_rfl) HXd.out ?_
 intro hHeld
 clear HXd
 generalize World.drew _ = wd at HWd hHeld ⊢
 (refine takeH (i := 0) (v := .agg cs) rfl (by kernel_rfl) (by kernel_rfl) (by kernel_rfl) (fun _ _ _ h => h) (Or.inl ⟨by rfl, fun wS hSw => exec_load_row 28 (.tmp 1) rfl w.heap.size rfl 28 cs (0, 0) _ hSw Tryz.underlying28 rfl HI.out⟩) (by assumption) ?_; (try simp only [Act.put, pA, pB, pC]))
 (refine takeH (i := 1) (v := .agg cs) rfl (by kernel_rfl) (by kernel_rfl) (by kernel_rfl) (fun _ _ _ h => h) (Or.inl ⟨by rfl, fun wS hSw => exec_load_row 28 (.tmp 1) rfl w.heap.size rfl 28 cs (0, 0) _ hSw Tryz.underlying28 rfl HI.out⟩) (by assumption) ?_; (try simp only [Act.put, pA, pB, pC]))
 refine aloneH (i := 2) rfl (by kernel_rfl) (fun K hK => ?_)
 rw [if_pos (by rfl)]
 go_simp; ((refine (HU.out _).mono ?_); (rintro e w1 ⟨rfl, hb⟩); have HB1 := Lib.hid hb; clear hb; (try go_simp))
 refine hK.out _ _ (heap_on HB1.out hHeld) ?_
 clear hK K hHeld; intro hHeld; (try simp only [Act.put, pA, pB, pC])
 refine aloneH (i := 3) rfl (by kernel_rfl) (fun K hK => ?_)
 rw [if_pos (by rfl)]
 go_simp; ((refine (HSm.out _ (below_then HWd.out HB1.out)).mono ?_); (rintro e w2 ⟨rfl, hb⟩); have HB2 := Lib.hid hb; clear hb; (try go_simp))
 refine hK.out _ _ (heap_on HB2.out hHeld) ?_
 clear hK K hHeld; intro hHeld; (try simp only [Act.put, pA, pB, pC])
 (refine takeP (i := 4) ?_ rfl (.inl ⟨by rfl, ?_⟩) ?_; rotate_left; (focus ((intro wS hSw); (try dsimp only at hSw); have s0 := hSw; go_simp; (try with_reducible rfl); done)); (try simp only [Act.put, pA, pB, pC]))
 refine wpAnyH_done (by kernel_rfl) ?_ _
 have HXa := Lib.hid hHeld
 have HBa := Lib.hid (below_then HWd.out (below_then HB1.out HB2.out))
 clear hHeld
 have k0 := (cell_of_row w2 w.heap.size 0 _ _ _ HXa.out).trans HH.out.1
 have k5 := (cell_of_row w2 w.heap.size 5 _ _ _ HXa.out).trans HH.out.2.1
 have k6 := (cell_of_row w2 w.heap.size 6 _ _ _ HXa.out).trans HH.out.2.2.1
 have k10 := (cell_of_row w2 w.heap.size 10 _ _ _ HXa.out).trans HH.out.2.2.2.1
 have k11 := (cell_of_row w2 w.heap.size 11 _ _ _ HXa.out).trans HH.out.2.2.2.2.1
 have k12 := (cell_of_row w2 w.heap.size 12 _ _ _ HXa.out).trans HH.out.2.2.2.2.2
 cases hA : inB x.from_ 0 2932896
 all_goals
  go_wp2_with (first | (go_at_call 24; refine (ref_in _ _ _ _).mono ?_; rintro e w6 ⟨rfl, rfl⟩) | (go_at_call 25; refine (HGo.out _).mono ?_; rintro e w8 ⟨rfl, hb⟩; clear k0 k5 k6 k10 k11 k12; have HXb := Lib.hid (heap_on hb HXa.out); have HBb := Lib.hid (below_then HBa.out hb); clear hb; have k0 := (cell_of_row w8 w.heap.size 0 _ _ _ HXb.out).trans HH.out.1; refine Stop.out ?_))
  all_goals
   unfold Stop
   go_wp2_with (first | (go_at_call 24; refine (ref_in _ _ _ _).mono ?_; rintro e w6 ⟨rfl, rfl⟩))
   all_goals (go_ret; exact ⟨ret_bool HV.out, HBb.out⟩)
end Go.Proofs.YtplghpamckdklaaGreat
