/- Commands as bytes: the document's, by kinds. -/
import Derived.Test.YtmjjenemokojjaaGreatD47
import Derived.Test.YtmjjenemokojjaaGreatD48
import Derived.Test.YtmjjenemokojjaaGreatD11
import Derived.WalkMore
namespace Go.Proofs.YtmjjenemokojjaaGreat
open Go.RowKit
set_option maxRecDepth 100000
set_option linter.unusedSimpArgs false
set_option linter.unusedVariables false

/-- what the document's Encode tells of a command that may be -/
def EncR (w : World) (T : Text) (e : Ending) (w1 : World) : Prop := ∃ v, e = .returned (.tuple #[v, .int .i64 0]) ∧ OB w1 w.heap.size v T ∧ Below w.heap.size w w1
set_option maxHeartbeats 1000000 in
theorem refEnc_not (cs : Array Value) (w : World) (hs : cs.size = 22) (HGd : Hid (∀ W, Below w.heap.size w W → Calls Tryz.prog 9 #[.agg cs] W fun e w1 => e = .returned (.bool false) ∧ Below W.heap.size W w1)) : Calls Tryz.prog 15 #[.agg cs] w fun e w1 => e = .returned (.tuple #[.slice none 0 0, .int .i64 2]) ∧ Below w.heap.size w w1 := by
 have HX := Lib.hid (heap_alloc_new w (.cells cs 28))
 have HB0 := Lib.hid (below_alloc w (.cells cs 28))
 have HI := Lib.hid (cmd_info hs)
 clear hs
 go_enter Tryz.func15, Tryz.ntmps15
 go_wp2_with ((with_reducible refine wpList_load_row (o := ⟨some 5, _, _, _, _, _⟩) ?a1 28 (.tmp 1) ?a2 w.heap.size ?a3 28 cs (0, 0) _ HX.out Tryz.underlying28 ?a4 HI.out ?_); (case a1 => rfl); (case a2 => rfl); (case a3 => rfl); (case a4 => rfl); refine Stop.out ?_)
 unfold Stop
 go_wp2_with (go_at_call 9; refine (HGd.out _ HB0.out).mono ?_; rintro e w1 ⟨rfl, hb⟩; have HB1 := Lib.hid (below_then HB0.out hb); clear hb; refine Stop.out ?_)
 unfold Stop
 go_wp2
 go_ret2
 exact ⟨rfl, HB1.out⟩
theorem encTL_1 {x : CmdV} (hk : x.kind = 1) : (((([] ++ nB 1) ++ sB x.state) ++ nB x.index) ++ nB x.from_) = encT x := by
 unfold encT
 rw [bodyT_1 hk, hk]
 simp only [List.append_assoc, List.append_nil, List.nil_append]
set_option maxHeartbeats 4000000 in
theorem refEnc_1 (cs : Array Value) (x : CmdV) (w : World) (hkx : x.kind = 1) (hs : cs.size = 22) (HGd : Hid (∀ W, Below w.heap.size w W → Calls Tryz.prog 9 #[.agg cs] W fun e w1 => e = .returned (.bool true) ∧ Below W.heap.size W w1)) (hk : cs[0]? = some (.int .i64 1)) (h1 : cs[1]? = some (.string x.state)) (h5 : cs[5]? = some (.int .i64 x.from_)) (h9 : cs[9]? = some (.int .i64 x.index)) (b1 : x.state.size ≤ 65536) (b5 : NR x.from_) (b9 : NR x.index) : Calls Tryz.prog 15 #[.agg cs] w fun e w1 => EncR w (encT x) e w1 := by
 have HX := Lib.hid (heap_alloc_new w (.cells cs 28))
 have HB0 := Lib.hid (below_alloc w (.cells cs 28))
 have HI := Lib.hid (cmd_info hs)
 have HK := Lib.hid hk
 have HH := Lib.hid (And.intro h1 (And.intro h5 h9))
 have HR := Lib.hid (And.intro b1 (And.intro b5 b9))
 clear hs hk h1 h5 h9 b1 b5 b9
 go_enter Tryz.func15, Tryz.ntmps15
 go_wp2_with ((with_reducible refine wpList_load_row (o := ⟨some 5, _, _, _, _, _⟩) ?a1 28 (.tmp 1) ?a2 w.heap.size ?a3 28 cs (0, 0) _ HX.out Tryz.underlying28 ?a4 HI.out ?_); (case a1 => rfl); (case a2 => rfl); (case a3 => rfl); (case a4 => rfl); refine Stop.out ?_)
 unfold Stop
 go_wp2_with (go_at_call 9; refine (HGd.out _ HB0.out).mono ?_; rintro e w1 ⟨rfl, hb⟩; have HWa := Lib.hid (below_then HB0.out hb); have hx1 := heap_on hb HX.out; have HSa : Hid (OY w1 w.heap.size (.slice none 0 0) [] [(w.heap.size, (.cells cs 28 (0, 0)))] 0) := Lib.hid ⟨OB.nil _ _, fun p hp => (by have e := List.mem_singleton.1 hp; subst e; exact ⟨hx1, by simp [Value.ownBlock]⟩), HWa.out.size, Nat.le_refl _⟩; clear hb hx1; have k0 := (cell_of_row _ _ 0 _ _ _ HSa.out.box).trans HK.out; refine Stop.out ?_)
 unfold Stop
 clear HX HB0 HI HGd
 go_wp2_with (go_at_call 41; refine (HSa.out.num 1 ⟨by omega, by omega⟩ (by omega)).mono ?_; rintro e w2 ⟨v2, rfl, hs, hb⟩; have HSb := Lib.hid hs; have HWb := Lib.hid (HWa.out.trans hb); clear hs hb k0; have k0 := (cell_of_row _ _ 0 _ _ _ HSb.out.box).trans HK.out; refine Stop.out ?_)
 unfold Stop
 go_wp2
 have HScd := Lib.hid HSb.out.drew
 have HWcd := Lib.hid (HWb.out.trans ((Below.refl _ _).drew))
 (try clear k0)
 have HFs := Lib.hid (fun (wS : World) (hSw : wS.heap[w.heap.size]? = some (.cells cs 28 (0, 0))) => And.intro ((cell_of_row wS w.heap.size 1 _ _ _ hSw).trans HH.out.1) (And.intro ((cell_of_row wS w.heap.size 5 _ _ _ hSw).trans HH.out.2.1) ((cell_of_row wS w.heap.size 9 _ _ _ hSw).trans HH.out.2.2)))
 refine wp_region_held_drew (S := fun V => V.heap[w.heap.size]? = some (.cells cs 28 (0, 0))) (by kernel_rfl) HScd.out.box ?_
 intro hHeld
 generalize World.drew _ = wdc at HScd HWcd hHeld ⊢
 (refine takeP (i := 0) ?_ rfl (.inl ⟨by rfl, ?_⟩) ?_; rotate_left; (focus ((intro wS hSw); (try dsimp only at hSw); obtain ⟨s0, s1, s2⟩ := HFs.out wS hSw; go_simp; (try with_reducible rfl); done)); (try simp only [Act.put, pA, pB, pC]))
 (refine takeP (i := 1) ?_ rfl (.inl ⟨by rfl, ?_⟩) ?_; rotate_left; (focus ((intro wS hSw); (try dsimp only at hSw); obtain ⟨s0, s1, s2⟩ := HFs.out wS hSw; go_simp; (try with_reducible rfl); done)); (try simp only [Act.put, pA, pB, pC]))
 (refine takeP (i := 2) ?_ rfl (.inl ⟨by rfl, ?_⟩) ?_; rotate_left; (focus ((intro wS hSw); (try dsimp only at hSw); obtain ⟨s0, s1, s2⟩ := HFs.out wS hSw; go_simp; (try with_reducible rfl); done)); (try simp only [Act.put, pA, pB, pC]))
 (refine takeP (i := 4) ?_ rfl (.inl ⟨by rfl, ?_⟩) ?_; rotate_left; (focus ((intro wS hSw); (try dsimp only at hSw); obtain ⟨s0, s1, s2⟩ := HFs.out wS hSw; go_simp; (try with_reducible rfl); done)); (try simp only [Act.put, pA, pB, pC]))
 (refine takeP (i := 5) ?_ rfl (.inl ⟨by rfl, ?_⟩) ?_; rotate_left; (focus ((intro wS hSw); (try dsimp only at hSw); obtain ⟨s0, s1, s2⟩ := HFs.out wS hSw; go_simp; (try with_reducible rfl); done)); (try simp only [Act.put, pA, pB, pC]))
 (refine takeP (i := 7) ?_ rfl (.inl ⟨by rfl, ?_⟩) ?_; rotate_left; (focus ((intro wS hSw); (try dsimp only at hSw); obtain ⟨s0, s1, s2⟩ := HFs.out wS hSw; go_simp; (try with_reducible rfl); done)); (try simp only [Act.put, pA, pB, pC]))
 (refine takeP (i := 8) ?_ rfl (.inl ⟨by rfl, ?_⟩) ?_; rotate_left; (focus ((intro wS hSw); (try dsimp only at hSw); obtain ⟨s0, s1, s2⟩ := HFs.out wS hSw; go_simp; (try with_reducible rfl); done)); (try simp only [Act.put, pA, pB, pC]))
 refine aloneH (i := 3) rfl (by kernel_rfl) (fun K hK => ?_)
 rw [if_pos (by rfl)]
 go_simp; ((refine (HScd.out.text x.state (HR.out.1) (by omega)).mono ?_); (rintro e wc1 ⟨vc1, rfl, hs, hb⟩); have HSc1 := Lib.hid hs; have HWc1 := Lib.hid (HWcd.out.trans hb); clear hs hb; (try go_simp))
 refine hK.out _ _ (HSc1.out.box) ?_
 clear hK K hHeld; intro hHeld; (try simp only [Act.put, pA, pB, pC])
 refine aloneH (i := 6) rfl (by kernel_rfl) (fun K hK => ?_)
 rw [if_pos (by rfl)]
 go_simp; ((refine (HSc1.out.num x.index (HR.out.2.2) (by omega)).mono ?_); (rintro e wc2 ⟨vc2, rfl, hs, hb⟩); have HSc2 := Lib.hid hs; have HWc2 := Lib.hid (HWc1.out.trans hb); clear hs hb; (try go_simp))
 refine hK.out _ _ (HSc2.out.box) ?_
 clear hK K hHeld; intro hHeld; (try simp only [Act.put, pA, pB, pC])
 refine aloneH (i := 9) rfl (by kernel_rfl) (fun K hK => ?_)
 rw [if_pos (by rfl)]
 go_simp; ((refine (HSc2.out.num x.from_ (HR.out.2.1) (by omega)).mono ?_); (rintro e wc3 ⟨vc3, rfl, hs, hb⟩); have HSc3 := Lib.hid hs; have HWc3 := Lib.hid (HWc2.out.trans hb); clear hs hb; (try go_simp))
 refine hK.out _ _ (HSc3.out.box) ?_
 clear hK K hHeld; intro hHeld; (try simp only [Act.put, pA, pB, pC])
 (refine takeP (i := 10) ?_ rfl (.inl ⟨by rfl, ?_⟩) ?_; rotate_left; (focus ((intro wS hSw); (try dsimp only at hSw); obtain ⟨s0, s1, s2⟩ := HFs.out wS hSw; go_simp; (try with_reducible rfl); done)); (try simp only [Act.put, pA, pB, pC]))
 refine wpAnyH_done (by kernel_rfl) ?_ _
 clear hHeld
 go_wp2
 go_ret2
 exact ⟨vc3, rfl, by rw [← encTL_1 hkx]; exact HSc3.out.1, HWc3.out⟩
theorem encTL_2 {x : CmdV} (hk : x.kind = 2) : (((((([] ++ nB 2) ++ sB x.state) ++ nB x.category) ++ nB x.from_) ++ nB x.until_) ++ nB x.bp) = encT x := by
 unfold encT
 rw [bodyT_2 hk, hk]
 simp only [List.append_assoc, List.append_nil, List.nil_append]
set_option maxHeartbeats 4000000 in
theorem refEnc_2 (cs : Array Value) (x : CmdV) (w : World) (hkx : x.kind = 2) (hs : cs.size = 22) (HGd : Hid (∀ W, Below w.heap.size w W → Calls Tryz.prog 9 #[.agg cs] W fun e w1 => e = .returned (.bool true) ∧ Below W.heap.size W w1)) (hk : cs[0]? = some (.int .i64 2)) (h1 : cs[1]? = some (.string x.state)) (h3 : cs[3]? = some (.int .i64 x.category)) (h4 : cs[4]? = some (.int .i64 x.bp)) (h5 : cs[5]? = some (.int .i64 x.from_)) (h6 : cs[6]? = some (.int .i64 x.until_)) (b1 : x.state.size ≤ 65536) (b3 : NR x.category) (b4 : NR x.bp) (b5 : NR x.from_) (b6 : NR x.until_) : Calls Tryz.prog 15 #[.agg cs] w fun e w1 => EncR w (encT x) e w1 := by
 have HX := Lib.hid (heap_alloc_new w (.cells cs 28))
 have HB0 := Lib.hid (below_alloc w (.cells cs 28))
 have HI := Lib.hid (cmd_info hs)
 have HK := Lib.hid hk
 have HH := Lib.hid (And.intro h1 (And.intro h3 (And.intro h4 (And.intro h5 h6))))
 have HR := Lib.hid (And.intro b1 (And.intro b3 (And.intro b4 (And.intro b5 b6))))
 clear hs hk h1 h3 h4 h5 h6 b1 b3 b4 b5 b6
 go_enter Tryz.func15, Tryz.ntmps15
 go_wp2_with ((with_reducible refine wpList_load_row (o := ⟨some 5, _, _, _, _, _⟩) ?a1 28 (.tmp 1) ?a2 w.heap.size ?a3 28 cs (0, 0) _ HX.out Tryz.underlying28 ?a4 HI.out ?_); (case a1 => rfl); (case a2 => rfl); (case a3 => rfl); (case a4 => rfl); refine Stop.out ?_)
 unfold Stop
 go_wp2_with (go_at_call 9; refine (HGd.out _ HB0.out).mono ?_; rintro e w1 ⟨rfl, hb⟩; have HWa := Lib.hid (below_then HB0.out hb); have hx1 := heap_on hb HX.out; have HSa : Hid (OY w1 w.heap.size (.slice none 0 0) [] [(w.heap.size, (.cells cs 28 (0, 0)))] 0) := Lib.hid ⟨OB.nil _ _, fun p hp => (by have e := List.mem_singleton.1 hp; subst e; exact ⟨hx1, by simp [Value.ownBlock]⟩), HWa.out.size, Nat.le_refl _⟩; clear hb hx1; have k0 := (cell_of_row _ _ 0 _ _ _ HSa.out.box).trans HK.out; refine Stop.out ?_)
 unfold Stop
 clear HX HB0 HI HGd
 go_wp2_with (go_at_call 41; refine (HSa.out.num 2 ⟨by omega, by omega⟩ (by omega)).mono ?_; rintro e w2 ⟨v2, rfl, hs, hb⟩; have HSb := Lib.hid hs; have HWb := Lib.hid (HWa.out.trans hb); clear hs hb k0; have k0 := (cell_of_row _ _ 0 _ _ _ HSb.out.box).trans HK.out; refine Stop.out ?_)
 unfold Stop
 go_wp2
 have HScd := Lib.hid HSb.out.drew
 have HWcd := Lib.hid (HWb.out.trans ((Below.refl _ _).drew))
 (try clear k0)
 have HFs := Lib.hid (fun (wS : World) (hSw : wS.heap[w.heap.size]? = some (.cells cs 28 (0, 0))) => And.intro ((cell_of_row wS w.heap.size 1 _ _ _ hSw).trans HH.out.1) (And.intro ((cell_of_row wS w.heap.size 3 _ _ _ hSw).trans HH.out.2.1) (And.intro ((cell_of_row wS w.heap.size 4 _ _ _ hSw).trans HH.out.2.2.1) (And.intro ((cell_of_row wS w.heap.size 5 _ _ _ hSw).trans HH.out.2.2.2.1) ((cell_of_row wS w.heap.size 6 _ _ _ hSw).trans HH.out.2.2.2.2)))))
 refine wp_region_held_drew (S := fun V => V.heap[w.heap.size]? = some (.cells cs 28 (0, 0))) (by kernel_rfl) HScd.out.box ?_
 intro hHeld
 generalize World.drew _ = wdc at HScd HWcd hHeld ⊢
 (refine takeP (i := 0) ?_ rfl (.inl ⟨by rfl, ?_⟩) ?_; rotate_left; (focus ((intro wS hSw); (try dsimp only at hSw); obtain ⟨s0, s1, s2, s3, s4⟩ := HFs.out wS hSw; go_simp; (try with_reducible rfl); done)); (try simp only [Act.put, pA, pB, pC]))
 (refine takeP (i := 1) ?_ rfl (.inl ⟨by rfl, ?_⟩) ?_; rotate_left; (focus ((intro wS hSw); (try dsimp only at hSw); obtain ⟨s0, s1, s2, s3, s4⟩ := HFs.out wS hSw; go_simp; (try with_reducible rfl); done)); (try simp only [Act.put, pA, pB, pC]))
 (refine takeP (i := 2) ?_ rfl (.inl ⟨by rfl, ?_⟩) ?_; rotate_left; (focus ((intro wS hSw); (try dsimp only at hSw); obtain ⟨s0, s1, s2, s3, s4⟩ := HFs.out wS hSw; go_simp; (try with_reducible rfl); done)); (try simp only [Act.put, pA, pB, pC]))
 (refine takeP (i := 4) ?_ rfl (.inl ⟨by rfl, ?_⟩) ?_; rotate_left; (focus ((intro wS hSw); (try dsimp only at hSw); obtain ⟨s0, s1, s2, s3, s4⟩ := HFs.out wS hSw; go_simp; (try with_reducible rfl); done)); (try simp only [Act.put, pA, pB, pC]))
 (refine takeP (i := 5) ?_ rfl (.inl ⟨by rfl, ?_⟩) ?_; rotate_left; (focus ((intro wS hSw); (try dsimp only at hSw); obtain ⟨s0, s1, s2, s3, s4⟩ := HFs.out wS hSw; go_simp; (try with_reducible rfl); done)); (try simp only [Act.put, pA, pB, pC]))
 (refine takeP (i := 7) ?_ rfl (.inl ⟨by rfl, ?_⟩) ?_; rotate_left; (focus ((intro wS hSw); (try dsimp only at hSw); obtain ⟨s0, s1, s2, s3, s4⟩ := HFs.out wS hSw; go_simp; (try with_reducible rfl); done)); (try simp only [Act.put, pA, pB, pC]))
 (refine takeP (i := 8) ?_ rfl (.inl ⟨by rfl, ?_⟩) ?_; rotate_left; (focus ((intro wS hSw); (try dsimp only at hSw); obtain ⟨s0, s1, s2, s3, s4⟩ := HFs.out wS hSw; go_simp; (try with_reducible rfl); done)); (try simp only [Act.put, pA, pB, pC]))
 (refine takeP (i := 10) ?_ rfl (.inl ⟨by rfl, ?_⟩) ?_; rotate_left; (focus ((intro wS hSw); (try dsimp only at hSw); obtain ⟨s0, s1, s2, s3, s4⟩ := HFs.out wS hSw; go_simp; (try with_reducible rfl); done)); (try simp only [Act.put, pA, pB, pC]))
 (refine takeP (i := 11) ?_ rfl (.inl ⟨by rfl, ?_⟩) ?_; rotate_left; (focus ((intro wS hSw); (try dsimp only at hSw); obtain ⟨s0, s1, s2, s3, s4⟩ := HFs.out wS hSw; go_simp; (try with_reducible rfl); done)); (try simp only [Act.put, pA, pB, pC]))
 (refine takeP (i := 13) ?_ rfl (.inl ⟨by rfl, ?_⟩) ?_; rotate_left; (focus ((intro wS hSw); (try dsimp only at hSw); obtain ⟨s0, s1, s2, s3, s4⟩ := HFs.out wS hSw; go_simp; (try with_reducible rfl); done)); (try simp only [Act.put, pA, pB, pC]))
 (refine takeP (i := 14) ?_ rfl (.inl ⟨by rfl, ?_⟩) ?_; rotate_left; (focus ((intro wS hSw); (try dsimp only at hSw); obtain ⟨s0, s1, s2, s3, s4⟩ := HFs.out wS hSw; go_simp; (try with_reducible rfl); done)); (try simp only [Act.put, pA, pB, pC]))
 refine aloneH (i := 3) rfl (by kernel_rfl) (fun K hK => ?_)
 rw [if_pos (by rfl)]
 go_simp; ((refine (HScd.out.text x.state (HR.out.1) (by omega)).mono ?_); (rintro e wc1 ⟨vc1, rfl, hs, hb⟩); have HSc1 := Lib.hid hs; have HWc1 := Lib.hid (HWcd.out.trans hb); clear hs hb; (try go_simp))
 refine hK.out _ _ (HSc1.out.box) ?_
 clear hK K hHeld; intro hHeld; (try simp only [Act.put, pA, pB, pC])
 refine aloneH (i := 6) rfl (by kernel_rfl) (fun K hK => ?_)
 rw [if_pos (by rfl)]
 go_simp; ((refine (HSc1.out.num x.category (HR.out.2.1) (by omega)).mono ?_); (rintro e wc2 ⟨vc2, rfl, hs, hb⟩); have HSc2 := Lib.hid hs; have HWc2 := Lib.hid (HWc1.out.trans hb); clear hs hb; (try go_simp))
 refine hK.out _ _ (HSc2.out.box) ?_
 clear hK K hHeld; intro hHeld; (try simp only [Act.put, pA, pB, pC])
 refine aloneH (i := 9) rfl (by kernel_rfl) (fun K hK => ?_)
 rw [if_pos (by rfl)]
 go_simp; ((refine (HSc2.out.num x.from_ (HR.out.2.2.2.1) (by omega)).mono ?_); (rintro e wc3 ⟨vc3, rfl, hs, hb⟩); have HSc3 := Lib.hid hs; have HWc3 := Lib.hid (HWc2.out.trans hb); clear hs hb; (try go_simp))
 refine hK.out _ _ (HSc3.out.box) ?_
 clear hK K hHeld; intro hHeld; (try simp only [Act.put, pA, pB, pC])
 refine aloneH (i := 12) rfl (by kernel_rfl) (fun K hK => ?_)
 rw [if_pos (by rfl)]
 go_simp; ((refine (HSc3.out.num x.until_ (HR.out.2.2.2.2) (by omega)).mono ?_); (rintro e wc4 ⟨vc4, rfl, hs, hb⟩); have HSc4 := Lib.hid hs; have HWc4 := Lib.hid (HWc3.out.trans hb); clear hs hb; (try go_simp))
 refine hK.out _ _ (HSc4.out.box) ?_
 clear hK K hHeld; intro hHeld; (try simp only [Act.put, pA, pB, pC])
 refine aloneH (i := 15) rfl (by kernel_rfl) (fun K hK => ?_)
 rw [if_pos (by rfl)]
 go_simp; ((refine (HSc4.out.num x.bp (HR.out.2.2.1) (by omega)).mono ?_); (rintro e wc5 ⟨vc5, rfl, hs, hb⟩); have HSc5 := Lib.hid hs; have HWc5 := Lib.hid (HWc4.out.trans hb); clear hs hb; (try go_simp))
 refine hK.out _ _ (HSc5.out.box) ?_
 clear hK K hHeld; intro hHeld; (try simp only [Act.put, pA, pB, pC])
 (refine takeP (i := 16) ?_ rfl (.inl ⟨by rfl, ?_⟩) ?_; rotate_left; (focus ((intro wS hSw); (try dsimp only at hSw); obtain ⟨s0, s1, s2, s3, s4⟩ := HFs.out wS hSw; go_simp; (try with_reducible rfl); done)); (try simp only [Act.put, pA, pB, pC]))
 refine wpAnyH_done (by kernel_rfl) ?_ _
 clear hHeld
 go_wp2
 go_ret2
 exact ⟨vc5, rfl, by rw [← encTL_2 hkx]; exact HSc5.out.1, HWc5.out⟩
theorem encTL_3 {x : CmdV} (hk : x.kind = 3) : ((([] ++ nB 3) ++ nB x.from_) ++ nB x.until_) = encT x := by
 unfold encT
 rw [bodyT_3 hk, hk]
 simp only [List.append_assoc, List.append_nil, List.nil_append]
set_option maxHeartbeats 4000000 in
theorem refEnc_3 (cs : Array Value) (x : CmdV) (w : World) (hkx : x.kind = 3) (hs : cs.size = 22) (HGd : Hid (∀ W, Below w.heap.size w W → Calls Tryz.prog 9 #[.agg cs] W fun e w1 => e = .returned (.bool true) ∧ Below W.heap.size W w1)) (hk : cs[0]? = some (.int .i64 3)) (h5 : cs[5]? = some (.int .i64 x.from_)) (h6 : cs[6]? = some (.int .i64 x.until_)) (b5 : NR x.from_) (b6 : NR x.until_) : Calls Tryz.prog 15 #[.agg cs] w fun e w1 => EncR w (encT x) e w1 := by
 have HX := Lib.hid (heap_alloc_new w (.cells cs 28))
 have HB0 := Lib.hid (below_alloc w (.cells cs 28))
 have HI := Lib.hid (cmd_info hs)
 have HK := Lib.hid hk
 have HH := Lib.hid (And.intro h5 h6)
 have HR := Lib.hid (And.intro b5 b6)
 clear hs hk h5 h6 b5 b6
 go_enter Tryz.func15, Tryz.ntmps15
 go_wp2_with ((with_reducible refine wpList_load_row (o := ⟨some 5, _, _, _, _, _⟩) ?a1 28 (.tmp 1) ?a2 w.heap.size ?a3 28 cs (0, 0) _ HX.out Tryz.underlying28 ?a4 HI.out ?_); (case a1 => rfl); (case a2 => rfl); (case a3 => rfl); (case a4 => rfl); refine Stop.out ?_)
 unfold Stop
 go_wp2_with (go_at_call 9; refine (HGd.out _ HB0.out).mono ?_; rintro e w1 ⟨rfl, hb⟩; have HWa := Lib.hid (below_then HB0.out hb); have hx1 := heap_on hb HX.out; have HSa : Hid (OY w1 w.heap.size (.slice none 0 0) [] [(w.heap.size, (.cells cs 28 (0, 0)))] 0) := Lib.hid ⟨OB.nil _ _, fun p hp => (by have e := List.mem_singleton.1 hp; subst e; exact ⟨hx1, by simp [Value.ownBlock]⟩), HWa.out.size, Nat.le_refl _⟩; clear hb hx1; have k0 := (cell_of_row _ _ 0 _ _ _ HSa.out.box).trans HK.out; refine Stop.out ?_)
 unfold Stop
 clear HX HB0 HI HGd
 go_wp2_with (go_at_call 41; refine (HSa.out.num 3 ⟨by omega, by omega⟩ (by omega)).mono ?_; rintro e w2 ⟨v2, rfl, hs, hb⟩; have HSb := Lib.hid hs; have HWb := Lib.hid (HWa.out.trans hb); clear hs hb k0; have k0 := (cell_of_row _ _ 0 _ _ _ HSb.out.box).trans HK.out; refine Stop.out ?_)
 unfold Stop
 go_wp2
 have HScd := Lib.hid HSb.out.drew
 have HWcd := Lib.hid (HWb.out.trans ((Below.refl _ _).drew))
 (try clear k0)
 have HFs := Lib.hid (fun (wS : World) (hSw : wS.heap[w.heap.size]? = some (.cells cs 28 (0, 0))) => And.intro ((cell_of_row wS w.heap.size 5 _ _ _ hSw).trans HH.out.1) ((cell_of_row wS w.heap.size 6 _ _ _ hSw).trans HH.out.2))
 refine wp_region_held_drew (S := fun V => V.heap[w.heap.size]? = some (.cells cs 28 (0, 0))) (by kernel_rfl) HScd.out.box ?_
 intro hHeld
 generalize World.drew _ = wdc at HScd HWcd hHeld ⊢
 (refine takeP (i := 0) ?_ rfl (.inl ⟨by rfl, ?_⟩) ?_; rotate_left; (focus ((intro wS hSw); (try dsimp only at hSw); obtain ⟨s0, s1⟩ := HFs.out wS hSw; go_simp; (try with_reducible rfl); done)); (try simp only [Act.put, pA, pB, pC]))
 (refine takeP (i := 1) ?_ rfl (.inl ⟨by rfl, ?_⟩) ?_; rotate_left; (focus ((intro wS hSw); (try dsimp only at hSw); obtain ⟨s0, s1⟩ := HFs.out wS hSw; go_simp; (try with_reducible rfl); done)); (try simp only [Act.put, pA, pB, pC]))
 (refine takeP (i := 2) ?_ rfl (.inl ⟨by rfl, ?_⟩) ?_; rotate_left; (focus ((intro wS hSw); (try dsimp only at hSw); obtain ⟨s0, s1⟩ := HFs.out wS hSw; go_simp; (try with_reducible rfl); done)); (try simp only [Act.put, pA, pB, pC]))
 (refine takeP (i := 4) ?_ rfl (.inl ⟨by rfl, ?_⟩) ?_; rotate_left; (focus ((intro wS hSw); (try dsimp only at hSw); obtain ⟨s0, s1⟩ := HFs.out wS hSw; go_simp; (try with_reducible rfl); done)); (try simp only [Act.put, pA, pB, pC]))
 (refine takeP (i := 5) ?_ rfl (.inl ⟨by rfl, ?_⟩) ?_; rotate_left; (focus ((intro wS hSw); (try dsimp only at hSw); obtain ⟨s0, s1⟩ := HFs.out wS hSw; go_simp; (try with_reducible rfl); done)); (try simp only [Act.put, pA, pB, pC]))
 refine aloneH (i := 3) rfl (by kernel_rfl) (fun K hK => ?_)
 rw [if_pos (by rfl)]
 go_simp; ((refine (HScd.out.num x.from_ (HR.out.1) (by omega)).mono ?_); (rintro e wc1 ⟨vc1, rfl, hs, hb⟩); have HSc1 := Lib.hid hs; have HWc1 := Lib.hid (HWcd.out.trans hb); clear hs hb; (try go_simp))
 refine hK.out _ _ (HSc1.out.box) ?_
 clear hK K hHeld; intro hHeld; (try simp only [Act.put, pA, pB, pC])
 refine aloneH (i := 6) rfl (by kernel_rfl) (fun K hK => ?_)
 rw [if_pos (by rfl)]
 go_simp; ((refine (HSc1.out.num x.until_ (HR.out.2) (by omega)).mono ?_); (rintro e wc2 ⟨vc2, rfl, hs, hb⟩); have HSc2 := Lib.hid hs; have HWc2 := Lib.hid (HWc1.out.trans hb); clear hs hb; (try go_simp))
 refine hK.out _ _ (HSc2.out.box) ?_
 clear hK K hHeld; intro hHeld; (try simp only [Act.put, pA, pB, pC])
 (refine takeP (i := 7) ?_ rfl (.inl ⟨by rfl, ?_⟩) ?_; rotate_left; (focus ((intro wS hSw); (try dsimp only at hSw); obtain ⟨s0, s1⟩ := HFs.out wS hSw; go_simp; (try with_reducible rfl); done)); (try simp only [Act.put, pA, pB, pC]))
 refine wpAnyH_done (by kernel_rfl) ?_ _
 clear hHeld
 go_wp2
 go_ret2
 exact ⟨vc2, rfl, by rw [← encTL_3 hkx]; exact HSc2.out.1, HWc2.out⟩
theorem encTL_4 {x : CmdV} (hk : x.kind = 4) : ((((([] ++ nB 4) ++ sB x.state) ++ sB x.text) ++ nB x.from_) ++ nB x.until_) = encT x := by
 unfold encT
 rw [bodyT_4 hk, hk]
 simp only [List.append_assoc, List.append_nil, List.nil_append]
set_option maxHeartbeats 4000000 in
theorem refEnc_4 (cs : Array Value) (x : CmdV) (w : World) (hkx : x.kind = 4) (hs : cs.size = 22) (HGd : Hid (∀ W, Below w.heap.size w W → Calls Tryz.prog 9 #[.agg cs] W fun e w1 => e = .returned (.bool true) ∧ Below W.heap.size W w1)) (hk : cs[0]? = some (.int .i64 4)) (h1 : cs[1]? = some (.string x.state)) (h2 : cs[2]? = some (.string x.text)) (h5 : cs[5]? = some (.int .i64 x.from_)) (h6 : cs[6]? = some (.int .i64 x.until_)) (b1 : x.state.size ≤ 65536) (b2 : x.text.size ≤ 65536) (b5 : NR x.from_) (b6 : NR x.until_) : Calls Tryz.prog 15 #[.agg cs] w fun e w1 => EncR w (encT x) e w1 := by
 have HX := Lib.hid (heap_alloc_new w (.cells cs 28))
 have HB0 := Lib.hid (below_alloc w (.cells cs 28))
 have HI := Lib.hid (cmd_info hs)
 have HK := Lib.hid hk
 have HH := Lib.hid (And.intro h1 (And.intro h2 (And.intro h5 h6)))
 have HR := Lib.hid (And.intro b1 (And.intro b2 (And.intro b5 b6)))
 clear hs hk h1 h2 h5 h6 b1 b2 b5 b6
 go_enter Tryz.func15, Tryz.ntmps15
 go_wp2_with ((with_reducible refine wpList_load_row (o := ⟨some 5, _, _, _, _, _⟩) ?a1 28 (.tmp 1) ?a2 w.heap.size ?a3 28 cs (0, 0) _ HX.out Tryz.underlying28 ?a4 HI.out ?_); (case a1 => rfl); (case a2 => rfl); (case a3 => rfl); (case a4 => rfl); refine Stop.out ?_)
 unfold Stop
 go_wp2_with (go_at_call 9; refine (HGd.out _ HB0.out).mono ?_; rintro e w1 ⟨rfl, hb⟩; have HWa := Lib.hid (below_then HB0.out hb); have hx1 := heap_on hb HX.out; have HSa : Hid (OY w1 w.heap.size (.slice none 0 0) [] [(w.heap.size, (.cells cs 28 (0, 0)))] 0) := Lib.hid ⟨OB.nil _ _, fun p hp => (by have e := List.mem_singleton.1 hp; subst e; exact ⟨hx1, by simp [Value.ownBlock]⟩), HWa.out.size, Nat.le_refl _⟩; clear hb hx1; have k0 := (cell_of_row _ _ 0 _ _ _ HSa.out.box).trans HK.out; refine Stop.out ?_)
 unfold Stop
 clear HX HB0 HI HGd
 go_wp2_with (go_at_call 41; refine (HSa.out.num 4 ⟨by omega, by omega⟩ (by omega)).mono ?_; rintro e w2 ⟨v2, rfl, hs, hb⟩; have HSb := Lib.hid hs; have HWb := Lib.hid (HWa.out.trans hb); clear hs hb k0; have k0 := (cell_of_row _ _ 0 _ _ _ HSb.out.box).trans HK.out; refine Stop.out ?_)
 unfold Stop
 go_wp2
 have HScd := Lib.hid HSb.out.drew
 have HWcd := Lib.hid (HWb.out.trans ((Below.refl _ _).drew))
 (try clear k0)
 have HFs := Lib.hid (fun (wS : World) (hSw : wS.heap[w.heap.size]? = some (.cells cs 28 (0, 0))) => And.intro ((cell_of_row wS w.heap.size 1 _ _ _ hSw).trans HH.out.1) (And.intro ((cell_of_row wS w.heap.size 2 _ _ _ hSw).trans HH.out.2.1) (And.intro ((cell_of_row wS w.heap.size 5 _ _ _ hSw).trans HH.out.2.2.1) ((cell_of_row wS w.heap.size 6 _ _ _ hSw).trans HH.out.2.2.2))))
 refine wp_region_held_drew (S := fun V => V.heap[w.heap.size]? = some (.cells cs 28 (0, 0))) (by kernel_rfl) HScd.out.box ?_
 intro hHeld
 generalize World.drew _ = wdc at HScd HWcd hHeld ⊢
 (refine takeP (i := 0) ?_ rfl (.inl ⟨by rfl, ?_⟩) ?_; rotate_left; (focus ((intro wS hSw); (try dsimp only at hSw); obtain ⟨s0, s1, s2, s3⟩ := HFs.out wS hSw; go_simp; (try with_reducible rfl); done)); (try simp only [Act.put, pA, pB, pC]))
 (refine takeP (i := 1) ?_ rfl (.inl ⟨by rfl, ?_⟩) ?_; rotate_left; (focus ((intro wS hSw); (try dsimp only at hSw); obtain ⟨s0, s1, s2, s3⟩ := HFs.out wS hSw; go_simp; (try with_reducible rfl); done)); (try simp only [Act.put, pA, pB, pC]))
 (refine takeP (i := 2) ?_ rfl (.inl ⟨by rfl, ?_⟩) ?_; rotate_left; (focus ((intro wS hSw); (try dsimp only at hSw); obtain ⟨s0, s1, s2, s3⟩ := HFs.out wS hSw; go_simp; (try with_reducible rfl); done)); (try simp only [Act.put, pA, pB, pC]))
 (refine takeP (i := 4) ?_ rfl (.inl ⟨by rfl, ?_⟩) ?_; rotate_left; (focus ((intro wS hSw); (try dsimp only at hSw); obtain ⟨s0, s1, s2, s3⟩ := HFs.out wS hSw; go_simp; (try with_reducible rfl); done)); (try simp only [Act.put, pA, pB, pC]))
 (refine takeP (i := 5) ?_ rfl (.inl ⟨by rfl, ?_⟩) ?_; rotate_left; (focus ((intro wS hSw); (try dsimp only at hSw); obtain ⟨s0, s1, s2, s3⟩ := HFs.out wS hSw; go_simp; (try with_reducible rfl); done)); (try simp only [Act.put, pA, pB, pC]))
 (refine takeP (i := 7) ?_ rfl (.inl ⟨by rfl, ?_⟩) ?_; rotate_left; (focus ((intro wS hSw); (try dsimp only at hSw); obtain ⟨s0, s1, s2, s3⟩ := HFs.out wS hSw; go_simp; (try with_reducible rfl); done)); (try simp only [Act.put, pA, pB, pC]))
 (refine takeP (i := 8) ?_ rfl (.inl ⟨by rfl, ?_⟩) ?_; rotate_left; (focus ((intro wS hSw); (try dsimp only at hSw); obtain ⟨s0, s1, s2, s3⟩ := HFs.out wS hSw; go_simp; (try with_reducible rfl); done)); (try simp only [Act.put, pA, pB, pC]))
 (refine takeP (i := 10) ?_ rfl (.inl ⟨by rfl, ?_⟩) ?_; rotate_left; (focus ((intro wS hSw); (try dsimp only at hSw); obtain ⟨s0, s1, s2, s3⟩ := HFs.out wS hSw; go_simp; (try with_reducible rfl); done)); (try simp only [Act.put, pA, pB, pC]))
 (refine takeP (i := 11) ?_ rfl (.inl ⟨by rfl, ?_⟩) ?_; rotate_left; (focus ((intro wS hSw); (try dsimp only at hSw); obtain ⟨s0, s1, s2, s3⟩ := HFs.out wS hSw; go_simp; (try with_reducible rfl); done)); (try simp only [Act.put, pA, pB, pC]))
 refine aloneH (i := 3) rfl (by kernel_rfl) (fun K hK => ?_)
 rw [if_pos (by rfl)]
 go_simp; ((refine (HScd.out.text x.state (HR.out.1) (by omega)).mono ?_); (rintro e wc1 ⟨vc1, rfl, hs, hb⟩); have HSc1 := Lib.hid hs; have HWc1 := Lib.hid (HWcd.out.trans hb); clear hs hb; (try go_simp))
 refine hK.out _ _ (HSc1.out.box) ?_
 clear hK K hHeld; intro hHeld; (try simp only [Act.put, pA, pB, pC])
 refine aloneH (i := 6) rfl (by kernel_rfl) (fun K hK => ?_)
 rw [if_pos (by rfl)]
 go_simp; ((refine (HSc1.out.text x.text (HR.out.2.1) (by omega)).mono ?_); (rintro e wc2 ⟨vc2, rfl, hs, hb⟩); have HSc2 := Lib.hid hs; have HWc2 := Lib.hid (HWc1.out.trans hb); clear hs hb; (try go_simp))
 refine hK.out _ _ (HSc2.out.box) ?_
 clear hK K hHeld; intro hHeld; (try simp only [Act.put, pA, pB, pC])
 refine aloneH (i := 9) rfl (by kernel_rfl) (fun K hK => ?_)
 rw [if_pos (by rfl)]
 go_simp; ((refine (HSc2.out.num x.from_ (HR.out.2.2.1) (by omega)).mono ?_); (rintro e wc3 ⟨vc3, rfl, hs, hb⟩); have HSc3 := Lib.hid hs; have HWc3 := Lib.hid (HWc2.out.trans hb); clear hs hb; (try go_simp))
 refine hK.out _ _ (HSc3.out.box) ?_
 clear hK K hHeld; intro hHeld; (try simp only [Act.put, pA, pB, pC])
 refine aloneH (i := 12) rfl (by kernel_rfl) (fun K hK => ?_)
 rw [if_pos (by rfl)]
 go_simp; ((refine (HSc3.out.num x.until_ (HR.out.2.2.2) (by omega)).mono ?_); (rintro e wc4 ⟨vc4, rfl, hs, hb⟩); have HSc4 := Lib.hid hs; have HWc4 := Lib.hid (HWc3.out.trans hb); clear hs hb; (try go_simp))
 refine hK.out _ _ (HSc4.out.box) ?_
 clear hK K hHeld; intro hHeld; (try simp only [Act.put, pA, pB, pC])
 (refine takeP (i := 13) ?_ rfl (.inl ⟨by rfl, ?_⟩) ?_; rotate_left; (focus ((intro wS hSw); (try dsimp only at hSw); obtain ⟨s0, s1, s2, s3⟩ := HFs.out wS hSw; go_simp; (try with_reducible rfl); done)); (try simp only [Act.put, pA, pB, pC]))
 refine wpAnyH_done (by kernel_rfl) ?_ _
 clear hHeld
 go_wp2
 go_ret2
 exact ⟨vc4, rfl, by rw [← encTL_4 hkx]; exact HSc4.out.1, HWc4.out⟩
end Go.Proofs.YtmjjenemokojjaaGreat
